/- digit.dropZeros: zeros at a number's end. -/
import Derived.Test.YtpdoddhieblooaaGreatDoorKWrdIter
import Derived.Test.YtpdoddhieblooaaGreatDoorKFltMod
import Derived.Test.YtpdoddhieblooaaGreatDoorKWrdXs
import Derived.Test.YtpdoddhieblooaaGreatDoorKDigArg
import Derived.Test.YtpdoddhieblooaaGreatDoorKFltPure
import Derived.Test.YtpdoddhieblooaaGreatDoorKWrdMid
import Derived.Deep.QuietTactic
import Derived.BigQuiet
namespace Go.Proofs.YtpdoddhieblooaaGreatDoor
open Go.RowKit Go.Shelf
attribute [local go_sem] Oper.semAt_some

theorem tz_of {x : Nat} (hx : x ≠ 0) {r : List Nat} : ∀ (n a : Nat), digs a = List.replicate n 0 ++ x :: r → tz a = n
 | 0, a, h => by
   have h0 : 0 < a := by
     rcases Nat.eq_zero_or_pos a with h0 | h0
     · subst h0; rw [digs_zero] at h; cases h
     · exact h0
   rw [digs_pos a h0] at h
   simp at h
   exact tz_stop (by omega)
 | n + 1, a, h => by
   have h0 : 0 < a := by
     rcases Nat.eq_zero_or_pos a with h0 | h0
     · subst h0; rw [digs_zero] at h; simp at h
     · exact h0
   rw [digs_pos a h0, List.replicate_succ, List.cons_append] at h
   injection h with h1 h2
   rw [tz_step (by omega) h1, tz_of hx n _ h2]
theorem digs_zeros {n a : Nat} (h : digs a = List.replicate n 0) : a = 0 := by
 have := val_digs a
 rw [h, val_zeros _ (fun d hd => (List.mem_replicate.1 hd).2)] at this
 exact this.symm
def NoDig (pre : List Nat) : Prop := pre = List.replicate pre.length 0
theorem NoDig.nil : NoDig [] := rfl
theorem NoDig.push {pre : List Nat} (h : NoDig pre) : NoDig (pre ++ [0]) := by
 unfold NoDig at h ⊢
 rw [List.length_append, List.length_singleton, List.replicate_succ', ← h]
theorem NoDig.end {pre : List Nat} {x a : Nat} (h : NoDig pre) (hx : x ≠ 0) (hp : pre ++ [x] <+: digs a) : tz a = pre.length := by
 obtain ⟨r, hr⟩ := hp
 unfold NoDig at h
 rw [List.append_assoc] at hr
 exact tz_of (x := x) (r := r) hx _ _ (by rw [← hr, ← h]; rfl)
def DigEnd (pre : List Nat) : Prop := ∃ p x, pre = p ++ [x] ∧ NoDig p ∧ x ≠ 0
set_option maxHeartbeats 8000000 in
set_option maxRecDepth 100000 in
theorem dropz {B a : Nat} {v : Value} {w : World} (hA : WArg B w v a) (h0 : 0 < a) (la : (wrds a).length ≤ 9000) (ld : (digs a).length ≤ 10000) (hD : DivOK a (10 ^ tz a)) :
   Calls Tryz.prog 132 #[v] w fun e w' => ∃ u, e = .returned (.tuple #[u, .int .i64 (tz a : Int)]) ∧ WArg w.heap.size w' u (cutz a) ∧ Below w.heap.size w w' := by
 obtain ⟨pa, ka, rfl⟩ := hA.slice
 refine (callsIn_wide (n := 5)).1 ?_
 refine callsIn_of_wp_marks Tryz.func132 rfl trivial ?_ rfl
 simp only [Tryz.ntmps132, List.size_toArray, List.length_cons, List.length_nil, Nat.reduceAdd, Nat.reduceSub, Array.replicate_succ, Array.replicate_zero, List.push_toArray, List.append_toArray, List.nil_append, List.cons_append]
 have HA := Lib.hid hA
 have HL := Lib.hid la
 have HD := Lib.hid ld
 have H0 := Lib.hid h0
 have lT : tz a ≤ 10000 := Nat.le_trans (Nat.le_of_lt (tz_lt h0 (digs_lt a))) ld
 have HPW : Hid (∀ W, Calls Tryz.prog 122 #[.int .i64 10, .int .i64 (tz a : Int)] W (GivesW W (10 ^ tz a))) := Lib.hid fun W => power_d 10 (tz a) W (by decide) (by decide) (by omega) (pow_room (by decide) (by omega))
 have HDV : Hid (∀ (C : Nat) (vb : Value) (W : World), Below w.heap.size w W → WArg C W vb (10 ^ tz a) → Calls Tryz.prog 116 #[.slice pa (wrds a).length ka, vb] W fun e w' => ∃ vq vr, e = .returned (.tuple #[vq, vr]) ∧ WArg W.heap.size w' vq (cutz a) ∧ WArg W.heap.size w' vr (a % 10 ^ tz a) ∧ Below W.heap.size W w') := Lib.hid fun C vb W hW h => hD _ _ _ _ _ (HA.out.keep hW (Nat.le_refl _)) h
 clear hA la ld h0 hD lT
 gi_wp2_with (refine ⟨trivial, ?_⟩; gi_at_call 153; refine (callsIn_wide.2 (digits_any _ _ _ _)).mono ?_; rintro e w' ⟨rfl, rfl⟩)
 have bN := Boxed.new w 3 (.int .i64 0)
 have bL := Boxed.new (w.alloc (.cells #[.int .i64 0] 3)) 39 (.slice pa (wrds a).length ka)
 rw [World.size_alloc] at bL
 have hB0 : Below w.heap.size w ((w.alloc (.cells #[.int .i64 0] 3)).alloc (.cells #[.slice pa (wrds a).length ka] 39)) := ((Below.refl _ w).alloc (Nat.le_refl _) _).alloc (by simp) _
 refine wpIn_rangeFunc_ownF rfl (by decide) (gf := 174) (lb := #[.pointer (some ⟨w.heap.size + 1, 0, none⟩)]) rfl trivial (enters_of Tryz.func174 (by kernel_rfl) rfl)
   (digits_stops _ (by decide) (w.heap.size + 1) a _ _ (by simp) bL.cell ((HA.out.base (Nat.zero_le _)).keep hB0 (Nat.le_refl _)) (by have := HL.out; omega)) KeepsWords.trans (fun W l o o' _ h ho _ => KeepsWords.putObj W l o o' h ho) (Below.refl _ _) (fun _ => rfl)
   (fun pre W => (Boxed W w.heap.size 3 (.int .i64 (pre.length : Int)) ∧ Below w.heap.size w W) ∧ NoDig pre)
   (fun c pre W => (Boxed W w.heap.size 3 (.int .i64 ((pre.length : Int) - 1)) ∧ Below w.heap.size w W) ∧ (DigEnd pre ∧ c = .exit 0))
   ?oI ?oX
   ⟨⟨bN.alloc _, hB0⟩, NoDig.nil⟩
   (fun x => { tmps := #[.slice pa (wrds a).length ka, undef, .slice none 0 0, .int .i64 0, .pointer (some ⟨w.heap.size, 0, none⟩), .int .u8 ((48 + x : Nat) : Int), undef, undef, .slice pa (wrds a).length ka, .func (.func 174) #[] #[.pointer (some ⟨w.heap.size + 1, 0, none⟩)], .int .u8 ((48 + x : Nat) : Int), undef, undef, undef, undef, undef, undef, undef, undef, undef, undef, undef, undef, undef], defers := [] }) ?assign ?body ?done ?stop
 case oI => exact OwnFrom.and (OwnFrom.and (Own.from (boxed_own _ _ (fun pre : List Nat => .int .i64 (pre.length : Int))) _) (ownFrom_below (Nat.le_refl _) (by simp; omega))) (fun _ _ _ _ h _ _ => h)
 case oX => exact fun c => OwnFrom.and (OwnFrom.and (Own.from (boxed_own _ _ (fun pre : List Nat => .int .i64 ((pre.length : Int) - 1))) _) (ownFrom_below (Nat.le_refl _) (by simp; omega))) (fun _ _ _ _ h _ _ => h)
 case assign =>
   intro l x W K hK
   gi_wp2
   simpa [encD] using hK
 case body =>
   rintro l pre x W ⟨⟨hv, hB⟩, hN⟩ hlt
   have hc := hv.cell
   have hf := hv.frozen
   have hwr : IntKind.i64.wrap ((pre.length : Int) + 1) = (pre.length : Int) + 1 := IntWalk.i64_in _ (by have := HD.out; omega)
   have hs := hv.set (.int .i64 ((pre.length : Int) + 1))
   by_cases hx : x = 0
   · subst hx
     gi_wp2
     exact ⟨KeepsOthers.setCell _ _ _, KeepsWords.store (show Row _ _ _ _ from hv) (by decide), ⟨by rw [List.length_append]; exact hs, hB.setCell (p := ⟨w.heap.size, 0, none⟩) (Nat.le_refl _) _⟩, hN.push⟩
   · have q1 : ((48 + x : Nat) : Int) ≠ 48 := by omega
     have q2 : (((48 + x : Nat) : Int) != 48) = true := by simpa using q1
     have q3 : (48 + (x : Int) != 48) = true := by simp; omega
     gi_wp2
     refine ⟨KeepsOthers.refl _, ⟨?_, hB⟩, ⟨_, _, rfl, hN, hx⟩, rfl⟩
     rw [show ((pre ++ [x]).length : Int) - 1 = pre.length by simp]
     exact hv
 case done =>
   rintro D ys W hD rfl ⟨⟨hv, hB⟩, hN⟩ hK
   exact absurd (digs_zeros hN) (by have := H0.out; omega)
 case stop =>
   rintro D c pre W hD hp ⟨⟨hv, hB⟩, ⟨p, x, rfl, hN, hx⟩, rfl⟩ hK
   have e := hN.end hx hp
   have e2 : ((p ++ [x]).length : Int) - 1 = tz a := by simp; omega
   rw [e2] at hv
   clear hN hx hp e e2
   have hc := hv.cell
   have RN : Row W w.heap.size _ _ := hv
   gi_wp2_with (first
     | (refine ⟨trivial, ?_⟩; gi_at_call 122; refine (callsIn_wide.2 (HPW.out _)).mono ?_; rintro e w2 ⟨v2, rfl, W2, hb2⟩; have RN2 := RN.keep hb2)
     | (refine ⟨trivial, ?_⟩; gi_at_call 116; refine (callsIn_wide.2 (HDV.out _ _ _ (bl_then hB hb2) W2)).mono ?_; rintro e w3 ⟨v3, v4, rfl, W3, W4, hb3⟩; have W3' := Lib.hid W3; obtain ⟨p3, k3, rfl⟩ := W3.slice; obtain ⟨p4, k4, rfl⟩ := W4.slice; clear W3 W4; have RN3 := RN2.keep hb3; have hc3 := RN3.one))
   have hK3 := (hb3.block D (Nat.lt_of_lt_of_le (Array.getElem?_eq_some_iff.1 hK).1 hb2.size)).trans ((hb2.block D (Array.getElem?_eq_some_iff.1 hK).1).trans hK)
   have HB := Lib.hid (bl_then hB (bl_then hb2 hb3))
   have HZ := Lib.hid (Nat.le_trans hB.size hb2.size)
   refine wpIn_wide.2 ?_
   go_quiet (fail)
   gi_wp2
   have hK4 : (w3.drewN nq).heap[D]? = some (.deferred (some [])) := hK3
   have hB4 := below_drewN HB.out nq
   have hE := hB4.trans (belowK_b (n₀ := w.heap.size) (w := w) (Nat.le_refl _) (w3.drewN nq) D _ (.deferred none) (by simp at hD; omega) hK4 rfl rfl)
   refine ⟨by simp, .inl ⟨_, _, rfl, run_takeDeferred hK4, ?_⟩⟩
   refine ⟨.tuple #[.slice p3 (wrds (cutz a)).length k3, .int .i64 (tz a : Int)], by simp [results, Tryz.results132, go_sem], ⟨_, rfl, ?_, hE⟩⟩
   have hDl : D < w2.heap.size := Nat.lt_of_lt_of_le (Array.getElem?_eq_some_iff.1 hK).1 hb2.size
   have hM : Mid w2.heap.size w3 ((w3.drewN nq).putObj D (.deferred none)) := ⟨by simp, fun k h1 h2 => World.putObj_heap_other (w := w3.drewN nq) (show k ≠ D by omega)⟩
   exact (W3'.out.mid hM).base HZ.out
end Go.Proofs.YtpdoddhieblooaaGreatDoor
