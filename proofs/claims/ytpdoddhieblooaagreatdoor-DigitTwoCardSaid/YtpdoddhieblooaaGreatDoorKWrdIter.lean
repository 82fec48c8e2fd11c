/- limbs.digits: the iterator over a number's decimal digits, the lowest one first. limbs.length: how many decimal digits. -/
import Derived.Test.YtpdoddhieblooaaGreatDoorKWrdShare
import Derived.Test.YtpdoddhieblooaaGreatDoorKWrdXs
import Derived.RangeFuncNested
import Derived.RangeFuncBound
import Derived.RangeFuncCalls
import Derived.RangeFuncLeaves
import Derived.RangeFuncFrom
import Derived.Shelf.Abstract
import Derived.Shelf.RegionOpen
import Derived.WalkKit
import Derived.OwnWalkIn
import Derived.TacticsInMore
import Derived.LoopNIn
import Derived.LoopIn
import Derived.RangeFuncBox
namespace Go.Proofs.YtpdoddhieblooaaGreatDoor
open Go.RowKit Go.Shelf
attribute [local go_sem] Oper.semAt_some

structure KeepsWords (W W' : World) : Prop where
 size : W.heap.size ≤ W'.heap.size
 row : ∀ (b : Nat) (cs : Array Value), Row W b cs 104 → Row W' b cs 104
theorem KeepsWords.trans {A B C : World} (h : KeepsWords A B) (k : KeepsWords B C) : KeepsWords A C := ⟨Nat.le_trans h.size k.size, fun b cs hr => k.row b cs (h.row b cs hr)⟩
theorem KeepsWords.putObj (W : World) (l : Nat) (o o' : Obj) (h : W.heap[l]? = some o) (ho : o.isCells = false) : KeepsWords W (W.putObj l o') :=
 ⟨by simp, fun b cs hr => by
   by_cases e : b = l
   · subst e
     have h' : W.heap[b]? = _ := hr
     rw [h] at h'
     cases h'
     cases ho
   · exact (World.putObj_heap_other e).trans hr⟩
theorem WRow.keeps {w w' : World} {b N n : Nat} (h : WRow w b N n) (hk : KeepsWords w w') : WRow w' b N n := by
 obtain ⟨l, hR, hd⟩ := h
 exact ⟨l, hk.row _ _ hR, hd⟩
theorem abides_below {β : Type} {B : Nat} {J : β → World → Prop} (hJ : AbidesFrom B J) {s : β} {W W' : World} (h : J s W) (hb : Below W.heap.size W W') : J s W' :=
 hJ s W W' none h ⟨hb.os, hb.tape, hb.output, hb.size, fun k hk _ => hb.block k hk⟩ (fun r e => by cases e)
open Classical in
noncomputable def wleft (W : World) (v : Value) : Nat := if h : ∃ R, WArg 0 W v R then Classical.choose h else 0
theorem WArg.inj {W : World} {v : Value} {a b : Nat} (ha : WArg 0 W v a) (hb : WArg 0 W v b) : a = b := by
 obtain ⟨p, c, k, e, h1, h2, h3, h4⟩ := ha.parts
 obtain ⟨p', c', k', e', g1, g2, g3, g4⟩ := hb.parts
 rw [e] at e'
 injection e' with ep el ek
 have hw : wrds a = wrds b := by
   apply List.ext_getElem el
   intro i hi hi'
   have x1 := h1 (by omega)
   have x2 := g1 (by omega)
   rw [x1] at ep
   rw [x2] at ep
   cases ep
   have y := (h3 i hi).symm.trans (g3 i hi')
   have y' : ((wrds a)[i] : Int) = (wrds b)[i] := by simpa using y
   omega
 rw [← wval_digs a, ← wval_digs b, hw]
theorem wleft_eq {W : World} {v : Value} {a : Nat} (h : WArg 0 W v a) : wleft W v = a := by
 have hex : ∃ R, WArg 0 W v R := ⟨a, h⟩
 unfold wleft
 rw [dif_pos hex]
 exact WArg.inj (Classical.choose_spec hex) h
theorem digs_step {k L R : Nat} (hk : k < 9) (hL : L < 10 ^ (9 - k)) (hp : 0 < L ∨ 0 < R) : digs (L + 10 ^ (9 - k) * R) = L % 10 :: digs (L / 10 + 10 ^ (9 - (k + 1)) * R) ∧ L / 10 < 10 ^ (9 - (k + 1)) := by
 have e : 10 ^ (9 - k) = 10 * 10 ^ (9 - (k + 1)) := by rw [show 9 - k = (9 - (k + 1)) + 1 by omega, Nat.pow_succ, Nat.mul_comm]
 generalize 10 ^ (9 - (k + 1)) = P at e ⊢
 rw [e] at hL ⊢
 refine ⟨?_, by omega⟩
 have hpos : 0 < L + 10 * P * R := by
   rcases hp with h | h
   · omega
   · have hP : 0 < P := by
       rcases Nat.eq_zero_or_pos P with h0 | h0
       · rw [h0] at hL; omega
       · exact h0
     have : 0 < 10 * P * R := Nat.mul_pos (by omega) h
     omega
 rw [digs_pos _ hpos]
 have e2 : L + 10 * P * R = L + 10 * (P * R) := by rw [Nat.mul_assoc]
 rw [e2, Nat.add_mul_mod_self_left, Nat.add_mul_div_left _ _ (by decide)]
theorem undef_ne (b : Bool) (h : some undef = some (Value.bool b)) : False := by cases h
set_option maxHeartbeats 4000000 in
set_option maxRecDepth 100000 in
theorem digits1_w (n l Bn a B : Nat) (v : Value) (J Jx : List Nat → World → Prop) (W : World) (hn : 1 ≤ n) (hJ : AbidesFrom B J)
   (hY : ∀ pre x W1, J pre W1 → pre.length < (digs a).length → YieldAt Fence.wide (n - 1) Tryz.prog l #[.int .u8 ((48 + x : Nat) : Int)] W1 fun e W' =>
     (e = .returned (.bool true) ∧ J (pre ++ [x]) W' ∧ KeepsWords W1 W') ∨ (e = .returned (.bool false) ∧ Jx (pre ++ [x]) W'))
   (hc : W.cell? ⟨Bn, 0, none⟩ = some v) (hA : WArg 0 W v a) (la : (wrds a).length ≤ 10000) (h0 : J [] W) :
   CallsIn Fence.wide n Tryz.prog 174 #[.func (.yield l) #[] #[], .pointer (some ⟨Bn, 0, none⟩)] W fun e W' => (∃ v, e = .returned v) ∧
     ((∃ ys, ys = digs a ∧ J ys W') ∨ (∃ pre, pre <+: digs a ∧ Jx pre W')) := by
 refine callsIn_of_wp Tryz.func174 rfl trivial ?_ rfl
 simp only [Tryz.ntmps174, List.size_toArray, List.length_cons, List.length_nil, Nat.reduceAdd, Nat.reduceSub, Array.replicate_succ, Array.replicate_zero, List.push_toArray, List.append_toArray, List.nil_append, List.cons_append]
 gi_wp2
 gi_loopw [3] (fun r wr => ∃ (R : Nat) (pre : List Nat), pre ++ digs R = digs a ∧ R ≤ a ∧ WArg 0 wr r R ∧ J pre wr) (fun r wr => wleft wr r)
 case atStart => exact ⟨a, [], rfl, Nat.le_refl _, hA, h0⟩
 case round =>
   obtain ⟨R, pre, hd, hle, hr, hJs⟩ := hrel
   have lR : (wrds R).length ≤ 10000 := Nat.le_trans (wlength_le_of_wval (wrds_digs a) (wrds_neat R) (by rw [wval_digs, wval_digs]; exact hle)) la
   by_cases hR0 : R = 0
   · subst hR0
     have HZ := Lib.hid (isZero_d hr (by omega))
     obtain ⟨pr, kr, rfl⟩ := hr.slice
     rw [digs_zero, List.append_nil] at hd
     have HD := Lib.hid hd
     have HJ := Lib.hid hJs
     clear hd hJs hY hA hJ h0
     gi_wp2_with (refine ⟨trivial, ?_⟩; gi_at_call 49; refine (callsIn_wide.2 HZ.out).mono ?_; rintro e w2 ⟨rfl, rfl⟩)
     go_end0
     exact ⟨⟨_, rfl⟩, .inl ⟨_, HD.out, HJ.out⟩⟩
   · have HZ := Lib.hid (isZero_d hr (by omega))
     obtain ⟨pr, kr, rfl⟩ := hr.slice
     have d0 : decide (R = 0) = false := decide_eq_false hR0
     rw [d0] at HZ
     have HM := Lib.hid (wleft_eq hr)
     obtain ⟨Q, hQ⟩ : ∃ Q, R / 1000000000 = Q := ⟨_, rfl⟩
     obtain ⟨L0, hL0⟩ : ∃ L0, R % 1000000000 = L0 := ⟨_, rfl⟩
     obtain ⟨NW, hNW⟩ : ∃ NW, (wrds R).length = NW := ⟨_, rfl⟩
     obtain ⟨b3, hb⟩ : ∃ b, wr.heap.size = b := ⟨_, rfl⟩
     have HS : Hid (Calls Tryz.prog 145 #[.slice pr (wrds R).length kr, .int .u32 1000000000] wr fun e w' => e = .returned (.tuple #[.slice (some ⟨b3, 0, none⟩) (wrds Q).length NW, .int .u32 (L0 : Int)]) ∧ WRow w' b3 NW Q ∧ Below wr.heap.size wr w') := Lib.hid (by
       rw [← hQ, ← hL0, ← hNW, ← hb]; exact shared_w hr lR 1000000000 (by decide) (by decide))
     have hp0 : L0 < 10 ^ (9 - 0) := by show _ < 1000000000; omega
     have HDs : Hid (pre ++ digs (L0 + 10 ^ (9 - 0) * Q) = digs a) := by
       show _ = _
       rw [show L0 + 10 ^ (9 - 0) * Q = R by show _ + 1000000000 * _ = _; omega]
       exact hd
     have HQ : Hid (Q < R ∧ (wrds Q).length ≤ 10000) := Lib.hid ⟨by omega, Nat.le_trans (wlength_le_of_wval (wrds_digs a) (wrds_neat Q) (by rw [wval_digs, wval_digs]; omega)) la⟩
     have HJ := Lib.hid hJs
     have HY := Lib.hid hY
     clear hd hJs hA h0 hr hQ hL0 hNW hb hY
     gi_wp2_with (first
       | (refine ⟨trivial, ?_⟩; gi_at_call 49; refine (callsIn_wide.2 HZ.out).mono ?_; rintro e w2 ⟨rfl, rfl⟩)
       | (refine ⟨trivial, ?_⟩; gi_at_call 145; refine (callsIn_wide.2 HS.out).mono ?_; rintro e w3 ⟨rfl, HRow, hb3⟩))
     have HJ3 := Lib.hid (abides_below hJ HJ.out hb3)
     have HRow3 := Lib.hid HRow
     clear HZ HS HJ HRow hb3
     gi_loopw [4, 5] (fun lo i wi => ∃ (L k : Nat) (pre2 : List Nat), lo = .int .u32 (L : Int) ∧ i = .int .i64 (k : Int) ∧ k ≤ 9 ∧ L < 10 ^ (9 - k) ∧ pre2 ++ digs (L + 10 ^ (9 - k) * Q) = digs a ∧ WRow wi b3 NW Q ∧ J pre2 wi) (fun _ i _ => 9 - (intOf i).toNat)
     case atStart => exact ⟨L0, 0, pre, rfl, rfl, by decide, hp0, HDs.out, HRow3.out, HJ3.out⟩
     case round =>
       clear HRow3 HJ3 HDs hp0
       obtain ⟨L, k, pre2, rfl, rfl, hk, hL, hd2, hR2, hJ2⟩ := hrel
       have HA2 := Lib.hid (hR2.arg (B := 0) (Nat.zero_le _))
       by_cases hk9 : k = 9
       · subst hk9
         have hL0 : L = 0 := by have : L < 1 := hL; omega
         subst hL0
         have HJ2 := Lib.hid hJ2
         have HD2 : Hid (pre2 ++ digs Q = digs a) := by
           show _ = _
           rw [← hd2]; simp
         clear hd2 hJ2 hL
         gi_wp2_with (first | (exfalso; exact undef_ne _ (by assumption)) | ((with_reducible refine ⟨?_, ?_⟩); exact trivial))
         case roundEnd => exact ⟨⟨Q, pre2, HD2.out, by have := HQ.out.1; omega, HA2.out, HJ2.out⟩, by rw [wleft_eq HA2.out, HM.out]; exact HQ.out.1⟩
       · by_cases hL0 : 0 < L
         · have hLi : (0 : Int) < L := by omega
           have hLb : L < 1000000000 := Nat.lt_of_lt_of_le hL (Nat.pow_le_pow_right (by decide) (by omega : 9 - k ≤ 9))
           obtain ⟨hst, hL1⟩ := digs_step (L := L) (R := Q) (by omega : k < 9) hL (.inl hL0)
           rw [hst] at hd2
           have hlen : pre2.length < (digs a).length := by rw [← hd2]; simp
           obtain ⟨fn, tmps, assign, body, hy, hRd⟩ := HY.out pre2 (L % 10) wr hJ2 hlen
           have he : ((48 + L % 10 : Nat) : Int) = 48 + (L : Int) % 10 := by omega
           rw [he] at hy
           have hcv : (48 + (L : Int) % 10) % 256 = 48 + (L : Int) % 10 := by omega
           have hwv : IntKind.u32.wrap (48 + (L : Int) % 10) = 48 + (L : Int) % 10 := by rw [← he]; exact IntWalk.u32_in _ (by omega)
           have hk9' : (k : Int) < 9 := by omega
           have HD2 : Hid ((pre2 ++ [L % 10]) ++ digs (L / 10 + 10 ^ (9 - (k + 1)) * Q) = digs a) := Lib.hid (by rw [← hd2]; simp)
           have HR2 := Lib.hid hR2
           clear hd2 hJ2 hst hlen he hR2
           have HL1 := Lib.hid hL1
           clear hL1
           gi_wp2_with ((with_reducible refine ⟨?_, ?_⟩); exact trivial)
           refine hRd.mono ?_
           rintro e W3 (⟨rfl, hJ3, hk3⟩ | ⟨rfl, hJx3⟩)
           · have HR3 := Lib.hid (HR2.out.keeps hk3)
             have HJ3 := Lib.hid hJ3
             have hld : (L : Int) / 10 = ((L / 10 : Nat) : Int) := by omega
             obtain ⟨L1, hL1⟩ : ∃ L1, L / 10 = L1 := ⟨_, rfl⟩
             rw [hL1] at hld HL1 HD2
             have hLm : (L1 : Int) % 4294967296 = L1 := by omega
             clear hL1 hJ3 hk3 hRd hy
             gi_wp2
             go_roundw
             case rel => exact ⟨L1, k + 1, _, rfl, by go_num, by omega, HL1.out, HD2.out, HR3.out, HJ3.out⟩
             case measure => simp [intOf]; omega
           · gi_wp2
             refine bodyPost_ret (results_none rfl _ _ _) rfl ?_
             exact ⟨⟨_, rfl⟩, .inr ⟨_, ⟨_, HD2.out⟩, hJx3⟩⟩
         · obtain rfl : L = 0 := by omega
           by_cases hQ0 : Q = 0
           · subst hQ0
             have HZ2 := Lib.hid (isZero_d HA2.out (by have := HQ.out.2; omega))
             have HD2 : Hid (pre2 ++ digs 0 = digs a) := Lib.hid (by rw [← hd2]; simp)
             have HJ2 := Lib.hid hJ2
             have hk9' : (k : Int) < 9 := by omega
             clear hd2 hJ2 hL
             gi_wp2_with (refine ⟨trivial, ?_⟩; gi_at_call 49; refine (callsIn_wide.2 HZ2.out).mono ?_; rintro e w5 ⟨rfl, rfl⟩)
             case roundEnd => exact ⟨⟨0, pre2, HD2.out, Nat.zero_le _, HA2.out, HJ2.out⟩, by rw [wleft_eq HA2.out, HM.out]; exact HQ.out.1⟩
           · have HZ2 := Lib.hid (isZero_d HA2.out (by have := HQ.out.2; omega))
             rw [decide_eq_false hQ0] at HZ2
             obtain ⟨hst, hL1⟩ := digs_step (L := 0) (R := Q) (by omega : k < 9) hL (.inr (by omega))
             rw [hst] at hd2
             have hlen : pre2.length < (digs a).length := by rw [← hd2]; simp
             obtain ⟨fn, tmps, assign, body, hy, hRd⟩ := HY.out pre2 (0 % 10) wr hJ2 hlen
             have he : ((48 + 0 % 10 : Nat) : Int) = 48 := rfl
             rw [he] at hy
             have hk9' : (k : Int) < 9 := by omega
             have HD2 : Hid ((pre2 ++ [0 % 10]) ++ digs (0 / 10 + 10 ^ (9 - (k + 1)) * Q) = digs a) := Lib.hid (by rw [← hd2]; simp)
             have HR2 := Lib.hid hR2
             clear hd2 hJ2 hst hlen he hR2
             have HL1 := Lib.hid hL1
             clear hL1
             gi_wp2_with (refine ⟨trivial, ?_⟩; gi_at_call 49; refine (callsIn_wide.2 HZ2.out).mono ?_; rintro e w5 ⟨rfl, rfl⟩)
             refine hRd.mono ?_
             rintro e W3 (⟨rfl, hJ3, hk3⟩ | ⟨rfl, hJx3⟩)
             · have HR3 := Lib.hid (HR2.out.keeps hk3)
               have HJ3 := Lib.hid hJ3
               clear hJ3 hk3 hRd hy
               gi_wp2
               go_roundw
               case rel => exact ⟨0 / 10, k + 1, _, rfl, by go_num, by omega, HL1.out, HD2.out, HR3.out, HJ3.out⟩
               case measure => simp [intOf]; omega
             · gi_wp2
               refine bodyPost_ret (results_none rfl _ _ _) rfl ?_
               exact ⟨⟨_, rfl⟩, .inr ⟨_, ⟨_, HD2.out⟩, hJx3⟩⟩
end Go.Proofs.YtpdoddhieblooaaGreatDoor
namespace Go.Proofs.YtpdoddhieblooaaGreatDoor
open Go.RowKit Go.Shelf
attribute [local go_sem] Oper.semAt_some

theorem digits_any (p : Option Addr) (len cap : Nat) (w : World) :
   Calls Tryz.prog 153 #[.slice p len cap] w fun e w' => e = .returned (.func (.func 174) #[] #[.pointer (some ⟨w.heap.size, 0, none⟩)]) ∧ w.alloc (.cells #[.slice p len cap] 39) = w' := by
 go_enter Tryz.func153, Tryz.ntmps153
 go_wp2
 go_ret
 exact ⟨rfl, rfl⟩
abbrev encD (x : Nat) : Array Value := #[.int .u8 ((48 + x : Nat) : Int)]
theorem digits_stops (n : Nat) (hn : 1 ≤ n) (Bn a : Nat) (v : Value) (w : World) (hB : Bn < w.heap.size) (hc : w.cell? ⟨Bn, 0, none⟩ = some v) (hA : WArg 0 w v a) (la : (wrds a).length ≤ 10000) :
   SeqStopsK Fence.wide n Tryz.prog 174 #[.pointer (some ⟨Bn, 0, none⟩)] encD KeepsWords (fun ys => ys = digs a) (fun pre => pre <+: digs a) (digs a).length w :=
 fun l J Jx W hW hJ _ hY h0 => digits1_w n l Bn a W.heap.size v J Jx W hn hJ hY ((hW.cell (p := ⟨Bn, 0, none⟩) hB).trans hc) (hA.keep hW (Nat.le_refl _)) la h0
theorem KeepsWords.store {W : World} {b j : Nat} {u v : Value} {t : TypeId} (h : Row W b #[u] t) (ht : t ≠ 104) : KeepsWords W (W.setCell ⟨b, j, none⟩ v) :=
 ⟨by simp, fun b' cs hr => by
   by_cases e : b = b'
   · subst e
     have h1 : W.heap[b]? = _ := h
     have h2 : W.heap[b]? = _ := hr
     rw [h1] at h2
     cases h2
     exact absurd rfl ht
   · exact hr.set e⟩
set_option maxHeartbeats 4000000 in
set_option maxRecDepth 100000 in
theorem length_d {B a : Nat} {v : Value} {w : World} (hA : WArg B w v a) (la : (wrds a).length ≤ 10000) (ld : (digs a).length ≤ 1000000) :
   Calls Tryz.prog 128 #[v] w fun e w' => e = .returned (.int .i64 ((digs a).length : Int)) ∧ Below w.heap.size w w' := by
 obtain ⟨pa, ka, rfl⟩ := hA.slice
 refine (callsIn_wide (n := 5)).1 ?_
 refine callsIn_of_wp_marks Tryz.func128 rfl trivial ?_ rfl
 simp only [Tryz.ntmps128, List.size_toArray, List.length_cons, List.length_nil, Nat.reduceAdd, Nat.reduceSub, Array.replicate_succ, Array.replicate_zero, List.push_toArray, List.append_toArray, List.nil_append, List.cons_append]
 have HA := Lib.hid hA
 have HL := Lib.hid la
 have HD := Lib.hid ld
 clear hA la ld
 gi_wp2_with (refine ⟨trivial, ?_⟩; gi_at_call 153; refine (callsIn_wide.2 (digits_any _ _ _ _)).mono ?_; rintro e w' ⟨rfl, rfl⟩)
 have bN := Boxed.new w 3 (.int .i64 0)
 have bL := Boxed.new (w.alloc (.cells #[.int .i64 0] 3)) 39 (.slice pa (wrds a).length ka)
 rw [World.size_alloc] at bL
 have hB0 : Below w.heap.size w ((w.alloc (.cells #[.int .i64 0] 3)).alloc (.cells #[.slice pa (wrds a).length ka] 39)) := ((Below.refl _ w).alloc (Nat.le_refl _) _).alloc (by simp) _
 refine wpIn_rangeFunc_ownF rfl (by decide) (gf := 174) (lb := #[.pointer (some ⟨w.heap.size + 1, 0, none⟩)]) rfl trivial (enters_of Tryz.func174 (by kernel_rfl) rfl)
   (digits_stops _ (by decide) (w.heap.size + 1) a _ _ (by simp) bL.cell ((HA.out.base (Nat.zero_le _)).keep hB0 (Nat.le_refl _)) HL.out) KeepsWords.trans (fun W l o o' _ h ho _ => KeepsWords.putObj W l o o' h ho) (Below.refl _ _) (fun _ => rfl)
   (fun pre W => Boxed W w.heap.size 3 (.int .i64 (pre.length : Int)) ∧ Below w.heap.size w W)
   (fun _ _ _ => False)
   (OwnFrom.and (Own.from (boxed_own _ _ (fun pre : List Nat => .int .i64 (pre.length : Int))) _) (ownFrom_below (Nat.le_refl _) (by simp; omega)))
   (fun _ _ _ _ _ hs _ _ => hs)
   ⟨bN.alloc _, hB0⟩
   (fun x => { tmps := #[.slice pa (wrds a).length ka, undef, .int .i64 0, .pointer (some ⟨w.heap.size, 0, none⟩), .slice pa (wrds a).length ka, .func (.func 174) #[] #[.pointer (some ⟨w.heap.size + 1, 0, none⟩)], .int .u8 ((48 + x : Nat) : Int), undef, undef, undef], defers := [] }) ?assign ?body ?done ?stop
 case assign =>
   intro l x W K hK
   gi_wp2
   simp [encD]
   simpa using hK
 case body =>
   rintro l pre x W ⟨hv, hB⟩ hlt
   have hc := hv.cell
   have hf := hv.frozen
   have hwr : IntKind.i64.wrap ((pre.length : Int) + 1) = (pre.length : Int) + 1 := IntWalk.i64_in _ (by have := HD.out; omega)
   have hs := hv.set (.int .i64 ((pre.length : Int) + 1))
   gi_wp2
   exact ⟨KeepsOthers.setCell _ _ _, KeepsWords.store (show Row _ _ _ _ from hv) (by decide), by rw [List.length_append]; exact hs, hB.setCell (p := ⟨w.heap.size, 0, none⟩) (Nat.le_refl _) _⟩
 case done =>
   rintro D ys W hD rfl ⟨hv, hB⟩ hK
   have hc := hv.cell
   gi_wp2
   refine ⟨by simp, .inl ⟨_, _, rfl, run_takeDeferred hK, ?_⟩⟩
   exact ⟨_, results_tmp rfl _ _ _, rfl, hB.trans (belowK_b (w := w) (Nat.le_refl _) W D _ _ (by simp at hD; omega) hK rfl rfl)⟩
 case stop =>
   rintro D c pre W _ _ h _
   exact h.elim
end Go.Proofs.YtpdoddhieblooaaGreatDoor
