/- The law DigitDivided, where both are right numbers, the type is a fixed one and the divisor is not 0. digit.reckoned answers the error that the document asks, where it asks one. -/
import Derived.Test.YtpdoddhieblooaaGreatDoorKDivAny
import Derived.Test.YtpdoddhieblooaaGreatDoorKGoodDig
import Derived.Test.YtpdoddhieblooaaGreatDoorKWrdAwake
import Derived.Test.YtpdoddhieblooaaGreatDoorKFtErrT
import Derived.Test.YtpdoddhieblooaaGreatDoorKFtCmp
import Derived.Test.YtpdoddhieblooaaGreatDoorKFtNoFit
namespace Go.Proofs.YtpdoddhieblooaaGreatDoor
open Go.RowKit

def Same (P : Nat → Prop) (w w' : World) : Prop := w.heap.size ≤ w'.heap.size ∧ ∀ c, P c → w'.heap[c]? = w.heap[c]?
theorem Same.refl (P : Nat → Prop) (w : World) : Same P w w := ⟨Nat.le_refl _, fun _ _ => rfl⟩
theorem Same.set {P : Nat → Prop} {w w' : World} (h : Same P w w') {a : Addr} (ha : ¬ P a.block) (v : Value) : Same P w (w'.setCell a v) :=
 ⟨by simpa using h.1, fun c hc => (Below.heap_setCell w' a v c (by rintro rfl; exact ha hc)).trans (h.2 c hc)⟩
theorem DArgP.same {P : Nat → Prop} {w w' : World} {v : Value} {n : Nat} (h : DArgP P w v n) (hs : Same P w w') : DArgP P w' v n := by
 rcases h with h | ⟨b, cap, rfl, h1, h2, h3, h4⟩
 · exact .inl h
 · refine .inr ⟨b, cap, rfl, h1, h2, Nat.lt_of_lt_of_le h3 hs.1, fun j hj => ?_⟩
   rw [← h4 j hj]
   simp only [World.cell?, hs.2 b h2]
theorem cell_keep {w w' : World} {a : Addr} {v : Value} (h : w.cell? a = some v) (hb : Below w.heap.size w w') : w'.cell? a = some v := (hb.cell (p := a) (World.block_lt_of_cell? w a h)).trans h
theorem Row.set3 {w : World} {b n : Nat} {cs : Array Value} {t : TypeId} (h : Row w b cs t) (hne : ¬ n = b) (y0 y1 y2 : Value) : Row (((w.setCell ⟨n, 0, none⟩ y0).setCell ⟨n, 1, none⟩ y1).setCell ⟨n, 2, none⟩ y2) b cs t :=
 ((h.set (a := ⟨n, 0, none⟩) hne).set (a := ⟨n, 1, none⟩) hne).set (a := ⟨n, 2, none⟩) hne
theorem Row.three3 {w : World} {b : Nat} {a0 a1 a2 : Value} {t : TypeId} (h : Row w b #[a0, a1, a2] t) :
   w.cell? ⟨b, 0, none⟩ = some a0 ∧ w.cell? ⟨b, 1, none⟩ = some a1 ∧ w.cell? ⟨b, 2, none⟩ = some a2 := ⟨h.at 0, h.at 1, h.at 2⟩
theorem DArgP.sliceP {P : Nat → Prop} {w : World} {v : Value} {n : Nat} (h : DArgP P w v n) : ∃ p cap, v = .slice p (digs n).length cap := (h.arg (B := 0) (fun _ _ => Nat.zero_le _)).slice
theorem not_free {B : Nat} {os : List (Option Nat)} {n : Nat} (h : some n ∈ os) : ¬ Free B os n := fun hf => hf.2 _ h rfl
theorem right_of_good (t : Va) (h : GoodP t.k t.n t.q t.s) : t.right := by
 obtain ⟨k, n, q, s⟩ := t
 refine ⟨fun e => ?_, fun e => ?_, fun e => ?_⟩
 · obtain rfl : k = 1 := e
   have h' : GoodP 1 n q s := h
   rw [good_1] at h'
   exact ⟨h'.1, h'.2.1, h'.2.2.1, h'.2.2.2.1⟩
 · obtain rfl : k = 2 := e
   have h' : GoodP 2 n q s := h
   rw [good_2] at h'
   exact ⟨h'.1, h'.2.1, h'.2.2.1, h'.2.2.2.1⟩
 · obtain rfl : k = 3 := e
   have h' : GoodP 3 n q s := h
   rw [good_3] at h'
   rcases h'.1 with h1 | h1
   · obtain ⟨rfl, rfl⟩ := h1
     show -1000000000000000 < (0 : Int) ∧ (0 : Int) < 1000000000000000 ∧ -1000 ≤ (0 : Int) ∧ (0 : Int) ≤ 1000
     decide
   · have hl := digs_length n.natAbs 15 (by omega)
     show -1000000000000000 < n ∧ n < 1000000000000000 ∧ -1000 ≤ q ∧ q ≤ 1000
     omega
end Go.Proofs.YtpdoddhieblooaaGreatDoor
namespace Go.Proofs.YtpdoddhieblooaaGreatDoor
open Go.RowKit

theorem valid_kind {k p q n : Int} {vy : Bool} {pic : ByteArray} (h : validS k p q n vy pic = true) : 1 ≤ k ∧ k ≤ 9 := by
 by_cases h9 : 1 ≤ k ∧ k ≤ 9
 · exact h9
 · exfalso
   have e : validS k p q n vy pic = false := by
     unfold validS
     rw [if_neg (by omega), if_neg (by omega), if_neg (by omega), if_neg (by omega), if_neg (by omega), if_neg (by omega)]
   rw [e] at h
   exact Bool.noConfusion h
open Classical in
theorem good_ofB {a : Va} (h : Va.goodB a = true) : GoodP a.k a.n a.q a.s := by unfold Va.goodB at h; exact of_decide_eq_true h
theorem numB_iff (a : Va) : Va.numB a = true ↔ a.number := by
 unfold Va.numB Va.number
 rw [Bool.and_eq_true, decide_eq_true_eq, decide_eq_true_eq]
 omega
theorem right_yes {a : Va} (g : GoodP a.k a.n a.q a.s) (W : World) : Calls Tryz.prog 46 #[a.v] W (YesD W) := by
 refine (gDig a.k a.n a.q a.s W).mono fun e w' h => ?_
 obtain ⟨r, he, hr, hb⟩ := h
 have : r = true := hr.2 g
 subst this
 exact ⟨he, hb⟩
theorem reck_err {opf : Nat} {k p q n L : Int} {vy : Bool} {pic : ByteArray} (a b : Va) (E : Int) (hp : pic.size ≤ maxLen) (hE : askE [a, b] (validS k p q n vy pic) k = E) (h0 : E ≠ 0) (w : World) :
   Calls Tryz.prog 28 #[a.v, b.v, tyV k p q n vy pic, fnv opf, .int .i64 L] w fun e w' => e = .returned (.tuple #[vaV 0 0 0 ⟨#[]⟩, .int .i64 0, .int .i64 E]) ∧ Below w.heap.size w w' := by
 refine rec_e (ka := a.k) (na := a.n) (qa := a.q) (sa := a.s) (kb := b.k) (nb := b.n) (qb := b.q) (sb := b.s) fun bA bB bT bL bO bV bC W RA RB RT RL RO RV RC l1 l2 l3 l4 l5 l6 => ?_
 have hDR : ∀ (c cap : Nat) (W : World), VasAt W c 0 [Va.mk a.k a.n a.q a.s, Va.mk b.k b.n b.q b.s] → c < W.heap.size → Calls Tryz.prog 21 #[.slice (some ⟨c, 0, none⟩) 2 cap] W fun e w' => e = (if [a, b].all Va.goodB then .returned (.tuple #[]) else dRef 1) ∧ Below W.heap.size W w' := fun c cap W h hc => demRight_ex [a, b] c 0 cap W h (by simp) hc
 cases hg : [a, b].all Va.goodB
 · have e1 : E = 1 := by rw [← hE]; simp [askE, numE, hg]
   subst e1
   exact rec1_e1 RA RB RT RL RO fun c cap W h hc => (hDR c cap W h hc).mono fun e w' he => by rw [hg] at he; exact he
 · have hDR' : ∀ (c cap : Nat) (W : World), VasAt W c 0 [Va.mk a.k a.n a.q a.s, Va.mk b.k b.n b.q b.s] → c < W.heap.size → Calls Tryz.prog 21 #[.slice (some ⟨c, 0, none⟩) 2 cap] W fun e w' => e = .returned (.tuple #[]) ∧ Below W.heap.size W w' := fun c cap W h hc => (hDR c cap W h hc).mono fun e w' he => by rw [hg] at he; exact he
   have hg2 : Va.goodB a = true ∧ Va.goodB b = true := by simpa using hg
   have ga := good_ofB hg2.1
   have gb := good_ofB hg2.2
   have hn1 : numE [a, b] ≠ 1 := by unfold numE; rw [hg, if_pos rfl]; split <;> decide
   cases hv : validS k p q n vy pic
   · have e1 : E = 13 := by rw [← hE, hv]; unfold askE; rw [if_neg hn1, if_pos rfl]
     subst e1
     exact rec1_e13 RA RB RT RL RO hDR' fun W => demValid_noD k p q n vy pic W hp hv
   · have hDV : ∀ W, Calls Tryz.prog 56 #[.agg #[.int .i64 k, .int .i64 p, .int .i64 q, .int .i64 n, .bool vy, .string pic]] W fun e w' => e = .returned (.tuple #[]) ∧ Below W.heap.size W w' := fun W => demValid_yes k p q n vy pic W hp hv
     rw [hv] at hE
     unfold askE at hE
     rw [if_neg hn1, if_neg (by decide)] at hE
     by_cases ka : a.number
     · by_cases kb : b.number
       · have e0 : numE [a, b] = 0 := by
           have e3 := (numB_iff a).2 ka
           have e4 := (numB_iff b).2 kb
           unfold numE
           rw [hg, if_pos rfl]
           simp [e3, e4]
         have hk := valid_kind hv
         have hk3 : ¬ k ≤ 3 := fun h => h0 (by rw [← hE, e0, if_neg (by decide), if_pos h])
         have e1 : E = 10 := by rw [← hE, e0, if_neg (by decide), if_neg hk3]
         subst e1
         refine rec1_eT (za := a.num) (ua := a.den) (zb := b.num) (ub := b.den) RA RB RT RL RO RV RC ?_ hDV (fun W => (exactly_num (P := fun c => W.heap.size ≤ c) a W (fun _ h => h) (right_of_good a ga) ka).mono fun _ _ ⟨y, he, hx, hb⟩ => ⟨y, he, hx, hb⟩) (fun W => (exactly_num (P := fun c => W.heap.size ≤ c) b W (fun _ h => h) (right_of_good b gb) kb).mono fun _ _ ⟨y, he, hx, hb⟩ => ⟨y, he, hx, hb⟩) (fun W => fitting_no (by omega) p q n L vy pic W)
         intro t ht W
         rcases List.mem_cons.1 ht with rfl | ht
         · exact right_yes ga W
         · rw [List.mem_singleton.1 ht]
           exact right_yes gb W
       · have e0 : numE [a, b] = 10 := by
           have e4 : Va.numB b = false := by rw [← Bool.not_eq_true]; exact fun h => kb ((numB_iff b).1 h)
           unfold numE
           rw [hg, if_pos rfl]
           simp [e4]
         have e1 : E = 10 := by rw [← hE, e0, if_pos (by decide)]
         subst e1
         refine rec1_eB RA RB RT RL RO hDR' hDV (fun W => ?_) (fun W => exactly_none b W kb)
         refine (exactly_num (P := fun c => W.heap.size ≤ c) a W (fun _ h => h) (right_of_good a ga) ka).mono fun _ _ ⟨y, he, hx, hb⟩ => ?_
         obtain ⟨p1, k1, q1, m1, rfl⟩ := hx.x.open
         exact ⟨_, _, _, _, _, _, _, he, hb⟩
     · have e0 : numE [a, b] = 10 := by
         have e4 : Va.numB a = false := by rw [← Bool.not_eq_true]; exact fun h => ka ((numB_iff a).1 h)
         unfold numE
         rw [hg, if_pos rfl]
         simp [e4]
       have e1 : E = 10 := by rw [← hE, e0, if_pos (by decide)]
       subst e1
       exact rec1_eA RA RB RT RL RO hDR' hDV (fun W => exactly_none a W ka)
end Go.Proofs.YtpdoddhieblooaaGreatDoor
