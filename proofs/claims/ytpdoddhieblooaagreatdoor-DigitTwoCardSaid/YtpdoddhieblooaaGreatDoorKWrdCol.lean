/- slices.AppendSeq, slices.Collect of a number's digits. -/
import Derived.Test.YtpdoddhieblooaaGreatDoorKWrdIter
import Derived.Maps.AppendAt
namespace Go.Proofs.YtpdoddhieblooaaGreatDoor
open Go.RowKit Go.Shelf
attribute [local go_sem] Oper.semAt_some

theorem Tryz.infoByteW : (Tryz.prog.info? 5).map (fun i => (i.zero, i.size, i.bytes)) = some (some (.int .u8 0), 1, 1) := by kernel_rfl
abbrev encB (x : Nat) : Value := .int .u8 ((48 + x : Nat) : Int)
theorem keepsWords_append {W w1 : World} {n₀ B k : Nat} {e : Value} {t : TypeId} {v v' : Value} {xs : List Value} (hrow : W.ownsRow n₀ 5 1 v k xs) (hgrow : (W.alloc (.cells #[e] 5)).grownBy w1 v.ownBlock) (hv : Boxed w1 B t v) (ht : t ≠ 104) :
   KeepsWords W (w1.setCell ⟨B, 0, none⟩ v') := by
 have h1 : KeepsWords W w1 := ⟨by have := hgrow.size; simp at this; omega, fun b cs hr => by
   have hlt : b < (W.alloc (.cells #[e] 5)).heap.size := by have := hr.lt; simp; omega
   refine (hgrow.block b hlt ?_).trans (hr.alloc _)
   rcases hrow.2 with ⟨rfl, _⟩ | ⟨g, cap, cur, rfl, _, hgb, _⟩
   · simp [Value.ownBlock]
   · intro he
     have hg : b = g := by simpa [Value.ownBlock] using he
     subst hg
     have h' : W.heap[b]? = _ := hr
     rw [hgb] at h'
     injection h' with h'
     injection h' with _ h2
     exact absurd h2 (by decide)⟩
 exact h1.trans (KeepsWords.store (show Row _ _ _ _ from hv) ht)
set_option maxHeartbeats 4000000 in
set_option maxRecDepth 100000 in
theorem appendSeq_d {a Bn : Nat} {v : Value} {w : World} (hB : Bn < w.heap.size) (hc : w.cell? ⟨Bn, 0, none⟩ = some v) (hA : WArg 0 w v a) (la : (wrds a).length ≤ 10000) (ld : (digs a).length ≤ 1000000) :
   Calls Tryz.prog 175 #[.slice none 0 0, .func (.func 174) #[] #[.pointer (some ⟨Bn, 0, none⟩)]] w fun e w' => ∃ u, e = .returned u ∧ w'.ownsRow w.heap.size 5 1 u (digs a).length ((digs a).map encB) ∧ Below w.heap.size w w' := by
 obtain ⟨i0, hi, hz0, hz1, hz2⟩ := info_parts Tryz.infoByteW
 refine (callsIn_wide (n := 5)).1 ?_
 refine callsIn_of_wp_marks Tryz.func175 rfl trivial ?_ rfl
 simp only [Tryz.ntmps175, List.size_toArray, List.length_cons, List.length_nil, Nat.reduceAdd, Nat.reduceSub, Array.replicate_succ, Array.replicate_zero, List.push_toArray, List.append_toArray, List.nil_append, List.cons_append]
 gi_wp2
 have bO := Boxed.new w 141 (.slice none 0 0)
 have hB0 : Below w.heap.size w (w.alloc (.cells #[.slice none 0 0] 141)) := (Below.refl _ w).alloc (Nat.le_refl _) _
 refine wpIn_rangeFunc_ownF rfl (by decide) (gf := 174) (lb := #[.pointer (some ⟨Bn, 0, none⟩)]) rfl trivial (enters_of Tryz.func174 (by kernel_rfl) rfl)
   (digits_stops _ (by decide) Bn a v _ (by simp; omega) ((hB0.cell (p := ⟨Bn, 0, none⟩) hB).trans hc) (hA.keep hB0 (Nat.le_refl _)) la) KeepsWords.trans (fun W l o o' _ h ho _ => KeepsWords.putObj W l o o' h ho) (Below.refl _ _) (fun _ => rfl)
   (fun pre W => (∃ u, Boxed W w.heap.size 141 u ∧ W.ownsRow w.heap.size 5 1 u pre.length (pre.map encB) ∧ True) ∧ Below w.heap.size w W)
   (fun _ _ _ => False)
   (OwnFrom.and (Own.from (holdsRow_own w.heap.size w.heap.size 141 5 1 (fun pre : List Nat => pre.length) (fun pre => pre.map encB) (fun _ _ => True)) _) (ownFrom_below (Nat.le_refl _) (by simp)))
   (fun _ _ _ _ _ hs _ _ => hs)
   ⟨⟨_, bO, World.ownsRow_nil _ _ _ _, trivial⟩, hB0⟩
   (fun x => { tmps := #[.slice none 0 0, .func (.func 174) #[] #[.pointer (some ⟨Bn, 0, none⟩)], .pointer (some ⟨w.heap.size, 0, none⟩), undef, .slice none 0 0, encB x, .func (.func 174) #[] #[.pointer (some ⟨Bn, 0, none⟩)], encB x, undef, undef, undef, undef, undef], defers := [] }) ?assign ?body ?done ?stop
 case assign =>
   intro l x W K hK
   simp [encD]
   gi_wp2
   simpa [encB] using hK
 case body =>
   rintro l pre x W ⟨⟨u, hv, hrow, _⟩, hB⟩ hlt
   have hc := hv.cell
   gi_wp2_with (gi_at_builtin; refine wpListIn_append_own _ rfl _ _ 141 rfl w.heap.size 5 i0 (.int .u8 0) 1 1 Tryz.underlying141 hi hz0 hz1 hz2 rfl (by decide) _ _ _ rfl (hrow.alloc _) ⟨W.heap.size, 0, none⟩ 1 1 [encB x] rfl rfl (cell_one_new _ _ _) (by simp [Value.oneCell']) (by unfold maxLen; omega) (by omega) (by have := hB.size; simp; omega) ?_; intro v' w1 hown' hgrow _; obtain ⟨g', cap', rfl⟩ := ownsRow_succ hown'; obtain ⟨hv1, hv2, hr2, hk2, hb2⟩ := hv.appended (by decide) hrow hB.size (Nat.le_refl _) hown' hgrow; have hkw := fun v' => keepsWords_append (v' := v') hrow hgrow hv1 (by decide); have hc1 := hv1.cell; have hf1 := hv1.frozen)
   exact ⟨hk2, hkw _, ⟨_, hv2, by simpa using hr2, trivial⟩, hB.trans hb2⟩
 case done =>
   rintro D ys W hD rfl ⟨⟨u, hv, hrow, _⟩, hB⟩ hK
   have hc := hv.cell
   gi_wp2
   refine ⟨by simp, .inl ⟨_, _, rfl, run_takeDeferred hK, ?_⟩⟩
   exact ⟨_, results_tmp rfl _ _ _, u, rfl, ownsRow_putObj hrow _ hK rfl, hB.trans (belowK_b (w := w) (Nat.le_refl _) W D _ _ (by simp at hD; omega) hK rfl rfl)⟩
 case stop =>
   rintro D c pre W _ _ h _
   exact h.elim
end Go.Proofs.YtpdoddhieblooaaGreatDoor
