/- A drawn region in which calls, one behind the other, and boxes that are made may come in any order: told once, by what has come. ironbarkref01.Of, of floats with exponents from 0 on, and of any right number. ironbarkref01.Of, of any right number; exact numbers of the document whose blocks are told by a predicate. -/
import Derived.Test.YtpdoddhieblooaaGreatDoorKBit0
import Derived.Test.YtpdoddhieblooaaGreatDoorKExOf
import Derived.Test.YtpdoddhieblooaaGreatDoorKFtOutB
import Derived.Test.YtpdoddhieblooaaGreatDoorKTwoLaw
import Derived.Deep.RegionHeld3
namespace Go.Proofs.YtpdoddhieblooaaGreatDoor
open Go.RowKit

def unl (l : Array Bool) : Nat := l.toList.countP (fun b => !b)
theorem countP_set : ∀ (l : List Bool) (i : Nat) (h : i < l.length), l[i] = false → l.countP (fun b => !b) = (l.set i true).countP (fun b => !b) + 1
 | [], _, h, _ => absurd h (by simp)
 | b :: l, 0, _, h => by
   have hb : b = false := h
   subst hb
   simp
 | b :: l, i + 1, h, h' => by
   have := countP_set l i (by simpa using h) (by simpa using h')
   simp only [List.set_cons_succ, List.countP_cons]
   omega
theorem unl_set {l : Array Bool} {i : Nat} (h : l.getD i true = false) : unl l = unl (l.setIfInBounds i true) + 1 := by
 have hi : i < l.size := by
   rcases Nat.lt_or_ge i l.size with h' | h'
   · exact h'
   · simp [Array.getElem?_eq_none h'] at h
 unfold unl
 rw [Array.toList_setIfInBounds]
 refine countP_set l.toList i (by simpa using hi) ?_
 simpa [hi] using h
theorem wpAnyH_fam {P : Program} {md : Region.Mode} {ops : Array Oper} {Q : Exit → Act → World → Prop} {S : World → Prop} {R : Array Bool → Act → World → Prop} {lend : Array Bool}
   (hstep : ∀ l a w, R l a w → l ≠ lend → Region.ready md ops l ≠ [] ∧ ∀ i ∈ Region.ready md ops l, wpOp P ops Q i (fun a' w' => S w' ∧ R (l.setIfInBounds i true) a' w') a w)
   (hend : ∀ a w, R lend a w → wpAnyH P md ops Q S (unl lend) lend a w) :
   ∀ fuel l a w, unl l = fuel → R l a w → wpAnyH P md ops Q S fuel l a w := by
 intro fuel
 induction fuel with
 | zero =>
   intro l a w hf hR
   by_cases h : l = lend
   · subst h; rw [← hf]; exact hend a w hR
   · obtain ⟨h1, _⟩ := hstep l a w hR h
     exfalso
     cases e : Region.ready md ops l with
     | nil => exact h1 e
     | cons i t =>
       have hi : i ∈ Region.ready md ops l := by rw [e]; simp
       have := unl_set (mem_ready.1 hi).1
       omega
 | succ n ih =>
   intro l a w hf hR
   by_cases h : l = lend
   · subst h; rw [← hf]; exact hend a w hR
   · obtain ⟨h1, h2⟩ := hstep l a w hR h
     refine ⟨fun e => absurd e h1, fun i hi => ?_⟩
     refine wpOp_mono (fun a' w' ⟨hS, hR'⟩ => ⟨hS, ih _ a' w' ?_ hR'⟩) (h2 i hi)
     have := unl_set (mem_ready.1 hi).1
     omega
theorem wpOp_box {P : Program} {ops : Array Oper} {Q : Exit → Act → World → Prop} {K : Act → World → Prop} {i s : Nat} {o : Oper} {a : Act} {w : World} {ob : Obj} (ho : ops[i]? = some o) (hg : ∀ ys, Region.wanted o ys = true) (hd : o.dst = some s)
   (he : ∀ ev W, (execOp ev o).run P W = .ok (.value (.pointer (some ⟨W.heap.size, 0, none⟩))) (W.alloc ob)) (h : K (a.put (some s) (.pointer (some ⟨w.heap.size, 0, none⟩))) (w.alloc ob)) : wpOp P ops Q i K a w := by
 refine wpOp_step ho fun K' hK => ?_
 rw [if_pos (hg _)]
 unfold Oper.wp
 rw [he, Oper.upon_value, hd]
 exact hK _ _ h
theorem wpOp_call {P : Program} {ops : Array Oper} {Q : Exit → Act → World → Prop} {K : Act → World → Prop} {i s f : Nat} {o : Oper} {a : Act} {w : World} {v : Value} (ho : ops[i]? = some o) (hg : ∀ ys, Region.wanted o ys = true) (hd : o.dst = some s)
   (he : ∀ W, (execOp a.eval o).run P W = .ok (.enter f #[v]) W) (h : Calls P f #[v] w fun e w' => ∃ r, e = .returned r ∧ K (a.put (some s) r) w') : wpOp P ops Q i K a w := by
 refine wpOp_step ho fun K' hK => ?_
 rw [if_pos (hg _)]
 unfold Oper.wp
 rw [he, Oper.upon_enter, hd]
 refine h.mono ?_
 rintro e w' ⟨r, rfl, hr⟩
 exact hK _ _ hr
abbrev Free (B : Nat) (os : List (Option Nat)) (c : Nat) : Prop := B ≤ c ∧ ∀ o ∈ os, o ≠ some c
def Box (B : Nat) (cs : Array Value) (t : TypeId) (b : Bool) (o : Option Nat) (p : Value) (w : World) : Prop :=
 (b = false → o = none) ∧ (b = true → ∃ n, o = some n ∧ p = .pointer (some ⟨n, 0, none⟩) ∧ B ≤ n ∧ Row w n cs t)
theorem Box.keep {B : Nat} {cs : Array Value} {t : TypeId} {b : Bool} {o : Option Nat} {p : Value} {w w' : World} (h : Box B cs t b o p w) (hb : Below w.heap.size w w') : Box B cs t b o p w' :=
 ⟨h.1, fun e => by obtain ⟨n, h1, h2, h3, h4⟩ := h.2 e; exact ⟨n, h1, h2, h3, h4.keep hb⟩⟩
theorem Box.lt {B : Nat} {cs : Array Value} {t : TypeId} {b : Bool} {o : Option Nat} {p : Value} {w : World} (h : Box B cs t b o p w) : o ≠ some w.heap.size := by
 cases b
 · rw [h.1 rfl]; simp
 · obtain ⟨n, h1, _, _, h4⟩ := h.2 rfl
   have := h4.lt
   rw [h1]; simp; omega
theorem Box.below {B : Nat} {cs : Array Value} {t : TypeId} {b : Bool} {o : Option Nat} {p : Value} {w : World} {c : Nat} (h : Box B cs t b o p w) (hc : w.heap.size ≤ c) : o ≠ some c := by
 cases b
 · rw [h.1 rfl]; simp
 · obtain ⟨n, h1, _, _, h4⟩ := h.2 rfl
   have := h4.lt
   rw [h1]; simp; omega
theorem Box.new (B : Nat) (cs : Array Value) (t : TypeId) (w : World) (hB : B ≤ w.heap.size) : Box B cs t true (some w.heap.size) (.pointer (some ⟨w.heap.size, 0, none⟩)) (w.alloc (.cells cs t)) :=
 ⟨fun e => (by cases e), fun _ => ⟨_, rfl, rfl, hB, Row.new w cs t⟩⟩
structure Stays (G : (Nat → Prop) → World → Value → Prop) : Prop where
 keep : ∀ {P : Nat → Prop} {w w' : World} {v : Value}, G P w v → Below w.heap.size w w' → G P w' v
 weak : ∀ {P P' : Nat → Prop} {w : World} {v : Value}, G P w v → (∀ c, c < w.heap.size → P c → P' c) → G P' w v
def GivesG (G : (Nat → Prop) → World → Value → Prop) (w : World) (e : Ending) (w' : World) : Prop := ∃ r, e = .returned r ∧ G (fun c => w.heap.size ≤ c) w' r ∧ Below w.heap.size w w'
def act2 (A : Act) (c1 c2 x1 x2 : Nat) (r1 r2 p1 p2 : Value) : Act :=
 { A with tmps := ((((A.tmps.setIfInBounds c1 r1).setIfInBounds c2 r2).setIfInBounds x1 p1).setIfInBounds x2 p2) }
theorem act2_put0 (A : Act) {c1 c2 x1 x2 : Nat} (r1 r2 p1 p2 y : Value) (h0_1 : c1 ≠ c2) (h0_2 : c1 ≠ x1) (h0_3 : c1 ≠ x2) : (act2 A c1 c2 x1 x2 r1 r2 p1 p2).put (some c1) y = act2 A c1 c2 x1 x2 y r2 p1 p2 := by
 have e : (((((A.tmps.setIfInBounds c1 r1).setIfInBounds c2 r2).setIfInBounds x1 p1).setIfInBounds x2 p2).setIfInBounds c1 y) = ((((A.tmps.setIfInBounds c1 y).setIfInBounds c2 r2).setIfInBounds x1 p1).setIfInBounds x2 p2) := by
   rw [Array.setIfInBounds_comm (xs := (((A.tmps.setIfInBounds c1 r1).setIfInBounds c2 r2).setIfInBounds x1 p1)) _ _ (fun e => h0_3 e.symm : x2 ≠ c1)]
   rw [Array.setIfInBounds_comm (xs := ((A.tmps.setIfInBounds c1 r1).setIfInBounds c2 r2)) _ _ (fun e => h0_2 e.symm : x1 ≠ c1)]
   rw [Array.setIfInBounds_comm (xs := (A.tmps.setIfInBounds c1 r1)) _ _ (fun e => h0_1 e.symm : c2 ≠ c1)]
   rw [Array.setIfInBounds_setIfInBounds]
 unfold act2 Act.put
 simp only []
 rw [e]
theorem act2_put1 (A : Act) {c1 c2 x1 x2 : Nat} (r1 r2 p1 p2 y : Value) (h1_2 : c2 ≠ x1) (h1_3 : c2 ≠ x2) : (act2 A c1 c2 x1 x2 r1 r2 p1 p2).put (some c2) y = act2 A c1 c2 x1 x2 r1 y p1 p2 := by
 have e : (((((A.tmps.setIfInBounds c1 r1).setIfInBounds c2 r2).setIfInBounds x1 p1).setIfInBounds x2 p2).setIfInBounds c2 y) = ((((A.tmps.setIfInBounds c1 r1).setIfInBounds c2 y).setIfInBounds x1 p1).setIfInBounds x2 p2) := by
   rw [Array.setIfInBounds_comm (xs := (((A.tmps.setIfInBounds c1 r1).setIfInBounds c2 r2).setIfInBounds x1 p1)) _ _ (fun e => h1_3 e.symm : x2 ≠ c2)]
   rw [Array.setIfInBounds_comm (xs := ((A.tmps.setIfInBounds c1 r1).setIfInBounds c2 r2)) _ _ (fun e => h1_2 e.symm : x1 ≠ c2)]
   rw [Array.setIfInBounds_setIfInBounds]
 unfold act2 Act.put
 simp only []
 rw [e]
theorem act2_put2 (A : Act) {c1 c2 x1 x2 : Nat} (r1 r2 p1 p2 y : Value) (h2_3 : x1 ≠ x2) : (act2 A c1 c2 x1 x2 r1 r2 p1 p2).put (some x1) y = act2 A c1 c2 x1 x2 r1 r2 y p2 := by
 have e : (((((A.tmps.setIfInBounds c1 r1).setIfInBounds c2 r2).setIfInBounds x1 p1).setIfInBounds x2 p2).setIfInBounds x1 y) = ((((A.tmps.setIfInBounds c1 r1).setIfInBounds c2 r2).setIfInBounds x1 y).setIfInBounds x2 p2) := by
   rw [Array.setIfInBounds_comm (xs := (((A.tmps.setIfInBounds c1 r1).setIfInBounds c2 r2).setIfInBounds x1 p1)) _ _ (fun e => h2_3 e.symm : x2 ≠ x1)]
   rw [Array.setIfInBounds_setIfInBounds]
 unfold act2 Act.put
 simp only []
 rw [e]
theorem act2_put3 (A : Act) {c1 c2 x1 x2 : Nat} (r1 r2 p1 p2 y : Value)  : (act2 A c1 c2 x1 x2 r1 r2 p1 p2).put (some x2) y = act2 A c1 c2 x1 x2 r1 r2 p1 y := by
 have e : (((((A.tmps.setIfInBounds c1 r1).setIfInBounds c2 r2).setIfInBounds x1 p1).setIfInBounds x2 p2).setIfInBounds x2 y) = ((((A.tmps.setIfInBounds c1 r1).setIfInBounds c2 r2).setIfInBounds x1 p1).setIfInBounds x2 y) := by
   rw [Array.setIfInBounds_setIfInBounds]
 unfold act2 Act.put
 simp only []
 rw [e]
def St2 (A : Act) (c1 c2 x1 x2 : Nat) (W0 : World) (cs : Array Value) (t : TypeId) (G1 G2 : (Nat → Prop) → World → Value → Prop) (c : Nat) (b1 b2 : Bool) (a : Act) (w : World) : Prop :=
 ∃ (r1 r2 p1 p2 : Value) (o1 o2 : Option Nat), a = act2 A c1 c2 x1 x2 r1 r2 p1 p2 ∧ Below W0.heap.size W0 w ∧ Box W0.heap.size cs t b1 o1 p1 w ∧ Box W0.heap.size cs t b2 o2 p2 w ∧ (o1 = o2 → o1 = none) ∧ (1 ≤ c → G1 (Free W0.heap.size [o1, o2]) w r1) ∧ (2 ≤ c → G2 (Free W0.heap.size [o1, o2]) w r2)
theorem St2.box1 {A : Act} {c1 c2 x1 x2 : Nat} {W0 : World} {cs : Array Value} {t : TypeId} {G1 G2 : (Nat → Prop) → World → Value → Prop} {c : Nat} {b2 : Bool} {a : Act} {w : World} (hG1 : Stays G1) (hG2 : Stays G2) (h2_3 : x1 ≠ x2) (h : St2 A c1 c2 x1 x2 W0 cs t G1 G2 c false b2 a w) :
   St2 A c1 c2 x1 x2 W0 cs t G1 G2 c true b2 (a.put (some x1) (.pointer (some ⟨w.heap.size, 0, none⟩))) (w.alloc (.cells cs t)) := by
 obtain ⟨r1, r2, p1, p2, o1, o2, rfl, hB, B1, B2, d01, g1, g2⟩ := h
 have hk : Below w.heap.size w (w.alloc (.cells cs t)) := (Below.refl _ w).alloc (Nat.le_refl _) _
 have hn : o1 = none := B1.1 rfl
 refine ⟨r1, r2, (.pointer (some ⟨w.heap.size, 0, none⟩)), p2, some w.heap.size, o2, act2_put2 A r1 r2 p1 p2 _ h2_3, bl_then hB hk, Box.new _ cs t w hB.size, B2.keep hk, fun e => absurd e.symm B2.lt, ?_⟩
 have hf : ∀ c, c < w.heap.size → Free W0.heap.size [o1, o2] c → Free W0.heap.size [some w.heap.size, o2] c := fun c hc hp => ⟨hp.1, fun o ho => by
     simp only [List.mem_cons, List.not_mem_nil, or_false] at ho
     rcases ho with rfl | rfl
     · intro e; have := Option.some.inj e; omega
     · exact hp.2 _ (by simp)
     ⟩
 exact ⟨fun e => hG1.keep (hG1.weak (g1 e) hf) hk, fun e => hG2.keep (hG2.weak (g2 e) hf) hk⟩
theorem St2.box2 {A : Act} {c1 c2 x1 x2 : Nat} {W0 : World} {cs : Array Value} {t : TypeId} {G1 G2 : (Nat → Prop) → World → Value → Prop} {c : Nat} {b1 : Bool} {a : Act} {w : World} (hG1 : Stays G1) (hG2 : Stays G2)  (h : St2 A c1 c2 x1 x2 W0 cs t G1 G2 c b1 false a w) :
   St2 A c1 c2 x1 x2 W0 cs t G1 G2 c b1 true (a.put (some x2) (.pointer (some ⟨w.heap.size, 0, none⟩))) (w.alloc (.cells cs t)) := by
 obtain ⟨r1, r2, p1, p2, o1, o2, rfl, hB, B1, B2, d01, g1, g2⟩ := h
 have hk : Below w.heap.size w (w.alloc (.cells cs t)) := (Below.refl _ w).alloc (Nat.le_refl _) _
 have hn : o2 = none := B2.1 rfl
 refine ⟨r1, r2, p1, (.pointer (some ⟨w.heap.size, 0, none⟩)), o1, some w.heap.size, act2_put3 A r1 r2 p1 p2 _ , bl_then hB hk, B1.keep hk, Box.new _ cs t w hB.size, fun e => absurd e B1.lt, ?_⟩
 have hf : ∀ c, c < w.heap.size → Free W0.heap.size [o1, o2] c → Free W0.heap.size [o1, some w.heap.size] c := fun c hc hp => ⟨hp.1, fun o ho => by
     simp only [List.mem_cons, List.not_mem_nil, or_false] at ho
     rcases ho with rfl | rfl
     · exact hp.2 _ (by simp)
     · intro e; have := Option.some.inj e; omega
     ⟩
 exact ⟨fun e => hG1.keep (hG1.weak (g1 e) hf) hk, fun e => hG2.keep (hG2.weak (g2 e) hf) hk⟩
theorem St2.call1 {A : Act} {c1 c2 x1 x2 : Nat} {W0 : World} {cs : Array Value} {t : TypeId} {G1 G2 : (Nat → Prop) → World → Value → Prop} {b1 b2 : Bool} {a : Act} {w w' : World} {y : Value} (hG1 : Stays G1) (h0_1 : c1 ≠ c2) (h0_2 : c1 ≠ x1) (h0_3 : c1 ≠ x2) (h : St2 A c1 c2 x1 x2 W0 cs t G1 G2 0 b1 b2 a w) (hy : G1 (fun c => w.heap.size ≤ c) w' y) (hk : Below w.heap.size w w') :
   St2 A c1 c2 x1 x2 W0 cs t G1 G2 1 b1 b2 (a.put (some c1) y) w' := by
 obtain ⟨r1, r2, p1, p2, o1, o2, rfl, hB, B1, B2, d01, g1, g2⟩ := h
 refine ⟨y, r2, p1, p2, o1, o2, act2_put0 A r1 r2 p1 p2 _ h0_1 h0_2 h0_3, bl_then hB hk, B1.keep hk, B2.keep hk, d01, ?_⟩
 have hf : ∀ c, c < w'.heap.size → w.heap.size ≤ c → Free W0.heap.size [o1, o2] c := fun c _ hc => ⟨Nat.le_trans hB.size hc, fun o ho => by
   simp only [List.mem_cons, List.not_mem_nil, or_false] at ho
   rcases ho with rfl | rfl
   · exact B1.below hc
   · exact B2.below hc
   ⟩
 exact ⟨fun _ => hG1.weak hy hf, fun e => absurd e (by omega)⟩
theorem St2.call2 {A : Act} {c1 c2 x1 x2 : Nat} {W0 : World} {cs : Array Value} {t : TypeId} {G1 G2 : (Nat → Prop) → World → Value → Prop} {b1 b2 : Bool} {a : Act} {w w' : World} {y : Value} (hG1 : Stays G1) (hG2 : Stays G2) (h1_2 : c2 ≠ x1) (h1_3 : c2 ≠ x2) (h : St2 A c1 c2 x1 x2 W0 cs t G1 G2 1 b1 b2 a w) (hy : G2 (fun c => w.heap.size ≤ c) w' y) (hk : Below w.heap.size w w') :
   St2 A c1 c2 x1 x2 W0 cs t G1 G2 2 b1 b2 (a.put (some c2) y) w' := by
 obtain ⟨r1, r2, p1, p2, o1, o2, rfl, hB, B1, B2, d01, g1, g2⟩ := h
 refine ⟨r1, y, p1, p2, o1, o2, act2_put1 A r1 r2 p1 p2 _ h1_2 h1_3, bl_then hB hk, B1.keep hk, B2.keep hk, d01, ?_⟩
 have hf : ∀ c, c < w'.heap.size → w.heap.size ≤ c → Free W0.heap.size [o1, o2] c := fun c _ hc => ⟨Nat.le_trans hB.size hc, fun o ho => by
   simp only [List.mem_cons, List.not_mem_nil, or_false] at ho
   rcases ho with rfl | rfl
   · exact B1.below hc
   · exact B2.below hc
   ⟩
 exact ⟨fun e => hG1.keep (g1 (by omega)) hk, fun _ => hG2.weak hy hf⟩
theorem any2_some {c i1 i2 j1 j2 : Nat} {b1 b2 : Bool} (hc : c ≤ 2) (hn : c < 2 ∨ b1 = false ∨ b2 = false) : (if c = 0 then [i1] else if c = 1 then [i2] else []) ++ (if b1 = true then [] else [j1]) ++ (if b2 = true then [] else [j2]) ≠ [] := by
 obtain rfl | rfl | rfl : c = 0 ∨ c = 1 ∨ c = 2 := by omega
 all_goals (cases b1 <;> cases b2 <;> simp_all)
theorem any2_mem {c i i1 i2 j1 j2 : Nat} {b1 b2 : Bool} (hc : c ≤ 2) (hi : i ∈ (if c = 0 then [i1] else if c = 1 then [i2] else []) ++ (if b1 = true then [] else [j1]) ++ (if b2 = true then [] else [j2])) : (i = i1 ∧ c = 0) ∨ (i = i2 ∧ c = 1) ∨ (i = j1 ∧ b1 = false) ∨ (i = j2 ∧ b2 = false) := by
 obtain rfl | rfl | rfl : c = 0 ∨ c = 1 ∨ c = 2 := by omega
 all_goals (cases b1 <;> cases b2 <;> simp_all)
theorem any2 {P : Program} {md : Region.Mode} {ops : Array Oper} {Q : Exit → Act → World → Prop} {S : World → Prop} {A : Act} {w1 W0 : World} {fuel : Nat} {l0 : Array Bool} {cs : Array Value} {t : TypeId}
   {u1 u2 q1 q2 : Oper} {f1 f2 : Nat} {v1 v2 : Value}
   (c1 c2 x1 x2 i1 i2 j1 j2 : Nat) (L : Nat → Bool → Bool → Array Bool) (G1 G2 : (Nat → Prop) → World → Value → Prop) (h0_1 : c1 ≠ c2) (h0_2 : c1 ≠ x1) (h0_3 : c1 ≠ x2) (h1_2 : c2 ≠ x1) (h1_3 : c2 ≠ x2) (h2_3 : x1 ≠ x2)
   (hG1 : Stays G1) (hG2 : Stays G2) (hl0 : l0 = L 0 false false) (hfuel : unl l0 = fuel) (hA : A = act2 A c1 c2 x1 x2 undef undef undef undef) (hB : Below W0.heap.size W0 w1) (hS1 : S w1) (hSk : ∀ w w', S w → Below w.heap.size w w' → S w')
   (hready : ∀ c b1 b2, (c < 2 ∨ b1 = false ∨ b2 = false) → c ≤ 2 → Region.ready md ops (L c b1 b2) = (if c = 0 then [i1] else if c = 1 then [i2] else []) ++ (if b1 = true then [] else [j1]) ++ (if b2 = true then [] else [j2]))
   (ho1 : ops[i1]? = some u1) (hg1 : ∀ ys, Region.wanted u1 ys = true) (hd1 : u1.dst = some c1) (he1 : ∀ r1 r2 p1 p2 W, (execOp (act2 A c1 c2 x1 x2 r1 r2 p1 p2).eval u1).run P W = .ok (.enter f1 #[v1]) W) (hC1 : ∀ w, S w → Calls P f1 #[v1] w (GivesG G1 w)) (hs1 : ∀ b1 b2, (L 0 b1 b2).setIfInBounds i1 true = L 1 b1 b2)
   (ho2 : ops[i2]? = some u2) (hg2 : ∀ ys, Region.wanted u2 ys = true) (hd2 : u2.dst = some c2) (he2 : ∀ r1 r2 p1 p2 W, (execOp (act2 A c1 c2 x1 x2 r1 r2 p1 p2).eval u2).run P W = .ok (.enter f2 #[v2]) W) (hC2 : ∀ w, S w → Calls P f2 #[v2] w (GivesG G2 w)) (hs2 : ∀ b1 b2, (L 1 b1 b2).setIfInBounds i2 true = L 2 b1 b2)
   (hp1 : ops[j1]? = some q1) (hw1 : ∀ ys, Region.wanted q1 ys = true) (hx1 : q1.dst = some x1) (ha1 : ∀ ev W, (execOp ev q1).run P W = .ok (.value (.pointer (some ⟨W.heap.size, 0, none⟩))) (W.alloc (.cells cs t))) (ht1 : ∀ c b2, (L c false b2).setIfInBounds j1 true = L c true b2)
   (hp2 : ops[j2]? = some q2) (hw2 : ∀ ys, Region.wanted q2 ys = true) (hx2 : q2.dst = some x2) (ha2 : ∀ ev W, (execOp ev q2).run P W = .ok (.value (.pointer (some ⟨W.heap.size, 0, none⟩))) (W.alloc (.cells cs t))) (ht2 : ∀ c b1, (L c b1 false).setIfInBounds j2 true = L c b1 true)
   (hL : ∀ c b1 b2, c ≤ 2 → L 2 true true = L c b1 b2 → c = 2 ∧ b1 = true ∧ b2 = true)
   (hend : ∀ (r1 r2 : Value) (n1 n2 : Nat) (w : World), S w → Below W0.heap.size W0 w → W0.heap.size ≤ n1 → W0.heap.size ≤ n2 → n1 ≠ n2 → Row w n1 cs t → Row w n2 cs t → G1 (Free W0.heap.size [some n1, some n2]) w r1 → G2 (Free W0.heap.size [some n1, some n2]) w r2 →
     wpAnyH P md ops Q S (unl (L 2 true true)) (L 2 true true) (act2 A c1 c2 x1 x2 r1 r2 (.pointer (some ⟨n1, 0, none⟩)) (.pointer (some ⟨n2, 0, none⟩))) w) :
   wpAnyH P md ops Q S fuel l0 A w1 := by
 refine wpAnyH_fam (R := fun l a w => ∃ c b1 b2, c ≤ 2 ∧ l = L c b1 b2 ∧ S w ∧ St2 A c1 c2 x1 x2 W0 cs t G1 G2 c b1 b2 a w) (lend := L 2 true true) ?_ ?_ fuel l0 A w1 hfuel ?_
 · rintro l a w ⟨c, b1, b2, hc, rfl, hS, hSt⟩ hne
   have hnot : c < 2 ∨ b1 = false ∨ b2 = false := by
     by_cases h : c < 2
     · exact .inl h
     · obtain rfl : c = 2 := by omega
       right
       cases b1
       · exact (.inl rfl)
       · cases b2
         · exact (.inr rfl)
         · exact absurd rfl hne
   rw [hready c b1 b2 hnot hc]
   refine ⟨any2_some hc hnot, ?_⟩
   · intro i hi
     have hcase := any2_mem hc hi
     rcases hcase with ⟨rfl, rfl⟩ | ⟨rfl, rfl⟩ | ⟨rfl, rfl⟩ | ⟨rfl, rfl⟩
     · refine wpOp_call ho1 hg1 hd1 (v := v1) (f := f1) ?_ ((hC1 w hS).mono ?_)
       · obtain ⟨r1, r2, p1, p2, o1, o2, rfl, _⟩ := hSt
         exact fun W => he1 r1 r2 p1 p2 W
       · rintro e w' ⟨y, rfl, hy, hb⟩
         exact ⟨y, rfl, hSk _ _ hS hb, 1, b1, b2, by omega, hs1 b1 b2, hSk _ _ hS hb, St2.call1 hG1 h0_1 h0_2 h0_3 hSt hy hb⟩
     · refine wpOp_call ho2 hg2 hd2 (v := v2) (f := f2) ?_ ((hC2 w hS).mono ?_)
       · obtain ⟨r1, r2, p1, p2, o1, o2, rfl, _⟩ := hSt
         exact fun W => he2 r1 r2 p1 p2 W
       · rintro e w' ⟨y, rfl, hy, hb⟩
         exact ⟨y, rfl, hSk _ _ hS hb, 2, b1, b2, by omega, hs2 b1 b2, hSk _ _ hS hb, St2.call2 hG1 hG2 h1_2 h1_3 hSt hy hb⟩
     · have hk : Below w.heap.size w (w.alloc (.cells cs t)) := (Below.refl _ w).alloc (Nat.le_refl _) _
       exact wpOp_box hp1 hw1 hx1 ha1 ⟨hSk _ _ hS hk, c, true, b2, hc, ht1 c b2, hSk _ _ hS hk, St2.box1 hG1 hG2 h2_3 hSt⟩
     · have hk : Below w.heap.size w (w.alloc (.cells cs t)) := (Below.refl _ w).alloc (Nat.le_refl _) _
       exact wpOp_box hp2 hw2 hx2 ha2 ⟨hSk _ _ hS hk, c, b1, true, hc, ht2 c b1, hSk _ _ hS hk, St2.box2 hG1 hG2  hSt⟩
 · rintro a w ⟨c, b1, b2, hc, hl, hS, hSt⟩
   obtain ⟨rfl, rfl, rfl⟩ := hL c b1 b2 hc hl
   obtain ⟨r1, r2, p1, p2, o1, o2, rfl, hB, B1, B2, d01, g1, g2⟩ := hSt
   obtain ⟨n1, rfl, rfl, hn1, hr1⟩ := B1.2 rfl
   obtain ⟨n2, rfl, rfl, hn2, hr2⟩ := B2.2 rfl
   exact hend r1 r2 n1 n2 w hS hB hn1 hn2 (fun e => by have := d01 (congrArg some e); cases this) hr1 hr2 (g1 (by omega)) (g2 (by omega))
 · exact ⟨0, false, false, by omega, hl0, hS1, undef, undef, undef, undef, none, none, hA, hB, ⟨fun _ => rfl, fun e => (by cases e)⟩, ⟨fun _ => rfl, fun e => (by cases e)⟩, fun _ => rfl, fun e => absurd e (by omega), fun e => absurd e (by omega)⟩
end Go.Proofs.YtpdoddhieblooaaGreatDoor
namespace Go.Proofs.YtpdoddhieblooaaGreatDoor
open Go.RowKit

theorem Row.pute {w : World} {b : Nat} {a0 a1 a2 : Value} {t : TypeId} (h : Row w b #[a0, a1, a2] t) (y0 y1 y2 : Value) :
   Row (((w.setCell ⟨b, 0, none⟩ y0).setCell ⟨b, 1, none⟩ y1).setCell ⟨b, 2, none⟩ y2) b #[y0, y1, y2] t :=
 heap_setCell_same _ b 2 _ t y2 (heap_setCell_same _ b 1 _ t y1 (heap_setCell_same w b 0 _ t y0 h))
theorem size_ex : (Tryz.prog.info? 52).map (·.size) = some 3 := by kernel_rfl
set_option maxRecDepth 100000 in
set_option maxHeartbeats 4000000 in
theorem of_3p (n : Int) (q : Nat) (s : ByteArray) (w : World) (h1 : -9223372036854775807 < n) (h2 : n < 9223372036854775807) (hq : q ≤ 1000) :
   Calls Tryz.prog 27 #[valV 3 n (q : Int) s] w (GivesR w (decide (n < 0)) (n.natAbs * 10 ^ q) 1) := by
 have lN : (digs n.natAbs).length ≤ 10000 := Nat.le_trans (digs_length n.natAbs 19 (by omega)) (by decide)
 obtain ⟨T, hT⟩ : ∃ T, T = 10 ^ q := ⟨_, rfl⟩
 have HP : Hid (∀ W, Calls Tryz.prog 53 #[.int .i64 10, .int .i64 (q : Int)] W (Gives W T)) := Lib.hid fun W => by rw [hT]; exact pow10_d q W (by omega)
 have lT : (digs T).length ≤ 10000 := by rw [hT, digs_len_pow10]; omega
 rw [← hT]
 have HM : Hid (∀ (va vb : Value) (W : World) (B C : Nat), DArg B W va n.natAbs → DArg C W vb T → Calls Tryz.prog 54 #[va, vb] W (Gives W (n.natAbs * T))) := Lib.hid fun va vb W B C ha hb => mul_d ha hb lN lT
 have HW : Hid (∀ W, Calls Tryz.prog 52 #[.int .i64 n] W (GivesR W (decide (n < 0)) n.natAbs 1)) := Lib.hid fun W => whole_d n W h1 h2
 generalize decide (n < 0) = ng at *
 generalize n.natAbs = N at *
 clear hT lN lT h1 h2
 have hq0 : (0 : Int) ≤ (q : Int) := by omega
 have RV := (Row.new w #[.int .i64 3, .int .i64 n, .int .i64 (q : Int), .string s] 23).alloc (.cells #[.bool false, .slice none 0 0, .slice none 0 0] 52)
 have RR := Row.new2 w (.cells #[.int .i64 3, .int .i64 n, .int .i64 (q : Int), .string s] 23) #[.bool false, .slice none 0 0, .slice none 0 0] 52
 go_enter Tryz.func27, Tryz.ntmps27
 go_wp2_with (go_at_call 52; refine (HW.out _).mono ?_; rintro e w1 ⟨v1, rfl, ⟨vn, vd, rfl, Dn, Dd⟩, hb1⟩; obtain ⟨pn, kn, rfl⟩ := Dn.slice; obtain ⟨pd, kd, rfl⟩ := Dd.slice; have hz := hb1.size; have V1 := RV.keep hb1; have R1 := RR.keep hb1; have B1 := Lib.hid (bl_box2 (Below.refl _ w) hb1); have hz' : w.heap.size + 1 + 1 ≤ w1.heap.size := (by simpa using hz); have V2 := V1.alloc (.cells #[.bool ng, .slice pn (digs N).length kn, .slice pd (digs 1).length kd] 52); obtain ⟨v0, v1, v2, v3⟩ := V2.four)
 have X2 := Row.new w1 #[.bool ng, .slice pn (digs N).length kn, .slice pd (digs 1).length kd] 52
 have R2 := R1.alloc (.cells #[.bool ng, .slice pn (digs N).length kn, .slice pd (digs 1).length kd] 52)
 have hba : Below w1.heap.size w1 (w1.alloc (.cells #[.bool ng, .slice pn (digs N).length kn, .slice pd (digs 1).length kd] 52)) := (Below.refl _ w1).alloc (Nat.le_refl _) _
 have Dn2 := (Dn.keep hba (Nat.le_refl _)).base (B' := w.heap.size) (by simp; omega)
 have Dd2 := (Dd.keep hba (Nat.le_refl _)).base (B' := w.heap.size) (by simp; omega)
 have B2 := Lib.hid (bl_then B1.out hba)
 have hlt2 := X2.lt
 have hxr : w.heap.size + 1 < w1.heap.size := by omega
 have hden : Hid (∀ W, Below w1.heap.size w1 W → DArg (w.heap.size + 1 + 1) W (.slice pd (digs 1).length kd) 1) := Lib.hid fun W h => (Dd.keep h (Nat.le_refl _)).base (B' := w.heap.size + 1 + 1) (by simp)
 have hbe := Lib.hid hba
 clear Dn Dd Dd2 RV RR V1 R1 B1 hb1 hz hz'
 generalize w1.alloc (.cells #[.bool ng, .slice pn (digs N).length kn, .slice pd (digs 1).length kd] 52) = W0 at *
 generalize w1.heap.size = bx at *
 obtain ⟨x0, x1, x2⟩ : W0.cell? ⟨bx, 0, none⟩ = some (.bool ng) ∧ W0.cell? ⟨bx, 1, none⟩ = some (.slice pn (digs N).length kn) ∧ W0.cell? ⟨bx, 2, none⟩ = some (.slice pd (digs 1).length kd) := ⟨X2.at 0, X2.at 1, X2.at 2⟩
 have lv := V2.lt
 refine wp_region_held_drew (S := fun w' => w'.cell? ⟨w.heap.size, 2, none⟩ = some (.int .i64 (q : Int))) (by kernel_rfl) ?_ (fun hHeld => ?_)
 · (first | go_keep | assumption)
 first
   | (refine wpAnyH_take (i := 0) (v := undef) rfl (by kernel_rfl) (by kernel_rfl) (by kernel_rfl) (fun _ _ _ h => h) (Or.inr ⟨by rfl, rfl⟩) (by assumption) ?_)
   | (refine wpAnyH_take (i := 0) (v := ?_) rfl (by kernel_rfl) (by kernel_rfl) (by kernel_rfl) (fun _ _ _ h => h) (Or.inl ⟨by rfl, ?_⟩) (by assumption) ?_; rotate_left; (· intro w hSw; (try dsimp only at hSw); go_simp; (try with_reducible rfl)))
   | fail "TK 0"
 try simp only [Act.put, List.setIfInBounds_toArray, List.set_cons_zero, List.set_cons_succ, List.getElem_toArray, List.getElem_cons_zero]
 first
   | (refine wpAnyH_take (i := 2) (v := undef) rfl (by kernel_rfl) (by kernel_rfl) (by kernel_rfl) (fun _ _ _ h => h) (Or.inr ⟨by rfl, rfl⟩) (by assumption) ?_)
   | (refine wpAnyH_take (i := 2) (v := ?_) rfl (by kernel_rfl) (by kernel_rfl) (by kernel_rfl) (fun _ _ _ h => h) (Or.inl ⟨by rfl, ?_⟩) (by assumption) ?_; rotate_left; (· intro w hSw; (try dsimp only at hSw); go_simp; (try with_reducible rfl)))
   | fail "TK 2"
 try simp only [Act.put, List.setIfInBounds_toArray, List.set_cons_zero, List.set_cons_succ, List.getElem_toArray, List.getElem_cons_succ, List.getElem_cons_zero]
 first
   | (refine wpAnyH_take (i := 3) (v := undef) rfl (by kernel_rfl) (by kernel_rfl) (by kernel_rfl) (fun _ _ _ h => h) (Or.inr ⟨by rfl, rfl⟩) (by assumption) ?_)
   | (refine wpAnyH_take (i := 3) (v := ?_) rfl (by kernel_rfl) (by kernel_rfl) (by kernel_rfl) (fun _ _ _ h => h) (Or.inl ⟨by rfl, ?_⟩) (by assumption) ?_; rotate_left; (· intro w hSw; (try dsimp only at hSw); go_simp; (try with_reducible rfl)))
   | fail "TK 3"
 try simp only [Act.put, List.setIfInBounds_toArray, List.set_cons_zero, List.set_cons_succ, List.getElem_toArray, List.getElem_cons_succ, List.getElem_cons_zero]
 refine wpAnyH_ready (rs := [1, 4]) (by kernel_rfl) (by simp) ?_
 refine AllReadyH.cons rfl (fun K hK => ?_) (AllReadyH.cons rfl (fun K hK => ?_) (AllReadyH.nil))
 · try simp only [List.getElem_toArray, List.getElem_cons_succ, List.getElem_cons_zero]
   go_simp
   refine hK.out _ _ ?_ (fun hHeld2 => ?_)
   · (first | go_keep | assumption)
   clear hK K hHeld
   have hHeld := hHeld2
   clear hHeld2
   try simp only [Act.put, List.setIfInBounds_toArray, List.set_cons_zero, List.set_cons_succ, List.getElem_toArray, List.getElem_cons_succ, List.getElem_cons_zero]
   refine wpAnyH_ready (rs := [4]) (by kernel_rfl) (by simp) ?_
   refine AllReadyH.cons rfl (fun K hK => ?_) AllReadyH.nil
   try simp only [List.getElem_toArray, List.getElem_cons_succ, List.getElem_cons_zero]
   first
     | (go_at_call 53; refine (HP.out _).mono ?_; rintro e w3 ⟨y3, rfl, D3, hb⟩; have b3 := undrew hb; have Dn3 := (Dn2.drew.keep hb (Nat.le_refl _)); have X3 := X2.keep b3; have u1 := X3.at 1; clear hb)
     | (go_simp; (go_at_call 53; refine (HP.out _).mono ?_; rintro e w3 ⟨y3, rfl, D3, hb⟩; have b3 := undrew hb; have Dn3 := (Dn2.drew.keep hb (Nat.le_refl _)); have X3 := X2.keep b3; have u1 := X3.at 1; clear hb))
     | fail "CALL"
   try go_wp2_with fail
   refine hK.out _ _ ?_ (fun hHeld2 => ?_)
   · (first | go_keep | assumption | (rw [b3.cell (by simp <;> omega)]; assumption) | (rw [World.cell?_setCell_far _ _ _ _ (by simp; omega), b3.cell (by simp <;> omega)]; assumption))
   clear hK K hHeld
   have hHeld := hHeld2
   clear hHeld2
   try simp only [Act.put, List.setIfInBounds_toArray, List.set_cons_zero, List.set_cons_succ, List.getElem_toArray, List.getElem_cons_succ, List.getElem_cons_zero]
   refine wpAnyH_ready (rs := [5]) (by kernel_rfl) (by simp) ?_
   refine AllReadyH.cons rfl (fun K hK => ?_) AllReadyH.nil
   try simp only [List.getElem_toArray, List.getElem_cons_succ, List.getElem_cons_zero]
   first
     | (go_at_call 54; refine (HM.out _ _ _ _ _ Dn3 D3).mono ?_; rintro e w4 ⟨y4, rfl, D4, hb⟩; have b4 := b3.trans (hb.mono b3.size); have hz4 := hb.size; obtain ⟨p4, k4, rfl⟩ := D4.slice; have X4 := X2.keep b4; have R4 := R2.keep b4; have f1 := X4.free 1; have q1 := X4.at 1; clear hb)
     | (go_simp; (go_at_call 54; refine (HM.out _ _ _ _ _ Dn3 D3).mono ?_; rintro e w4 ⟨y4, rfl, D4, hb⟩; have b4 := b3.trans (hb.mono b3.size); have hz4 := hb.size; obtain ⟨p4, k4, rfl⟩ := D4.slice; have X4 := X2.keep b4; have R4 := R2.keep b4; have f1 := X4.free 1; have q1 := X4.at 1; clear hb))
     | fail "CALL"
   try go_wp2_with fail
   refine hK.out _ _ ?_ (fun hHeld2 => ?_)
   · (first | go_keep | assumption | (rw [b4.cell (by simp <;> omega)]; assumption) | (rw [b3.cell (by simp <;> omega)]; assumption) | (rw [World.cell?_setCell_far _ _ _ _ (by simp; omega), b4.cell (by simp <;> omega)]; assumption) | (rw [World.cell?_setCell_far _ _ _ _ (by simp; omega), b3.cell (by simp <;> omega)]; assumption))
   clear hK K hHeld
   have hHeld := hHeld2
   clear hHeld2
   try simp only [Act.put, List.setIfInBounds_toArray, List.set_cons_zero, List.set_cons_succ, List.getElem_toArray, List.getElem_cons_succ, List.getElem_cons_zero]
   first
     | (refine wpAnyH_take (i := 6) (v := undef) rfl (by kernel_rfl) (by kernel_rfl) (by kernel_rfl) (fun _ _ _ h => h) (Or.inr ⟨by rfl, rfl⟩) (by assumption) ?_)
     | (refine wpAnyH_take (i := 6) (v := ?_) rfl (by kernel_rfl) (by kernel_rfl) (by kernel_rfl) (fun _ _ _ h => h) (Or.inl ⟨by rfl, ?_⟩) (by assumption) ?_; rotate_left; (· intro w hSw; (try dsimp only at hSw); go_simp; (try with_reducible rfl)))
     | fail "TK 6"
   try simp only [Act.put, List.setIfInBounds_toArray, List.set_cons_zero, List.set_cons_succ, List.getElem_toArray, List.getElem_cons_succ, List.getElem_cons_zero]
   have hz5 : W0.heap.size ≤ w3.heap.size := b3.size
   obtain ⟨y0, y1, y2⟩ : w4.cell? ⟨bx, 0, none⟩ = some (.bool ng) ∧ w4.cell? ⟨bx, 1, none⟩ = some (.slice pn (digs N).length kn) ∧ w4.cell? ⟨bx, 2, none⟩ = some (.slice pd (digs 1).length kd) := ⟨X4.at 0, X4.at 1, X4.at 2⟩
   have f1 := X4.free 1
   obtain ⟨r0, r1, r2⟩ : w4.cell? ⟨w.heap.size + 1, 0, none⟩ = some (.bool false) ∧ w4.cell? ⟨w.heap.size + 1, 1, none⟩ = some (.slice none 0 0) ∧ w4.cell? ⟨w.heap.size + 1, 2, none⟩ = some (.slice none 0 0) := ⟨R4.at 0, R4.at 1, R4.at 2⟩
   have g0 := R4.free 0
   have g1 := R4.free 1
   have g2 := R4.free 2
   have n1 : ¬ bx = w.heap.size + 1 := by omega
   have n2 : ¬ w.heap.size + 1 = bx := by omega
   have hbw : Below bx w1 (w4.setCell ⟨bx, 1, none⟩ (.slice p4 (digs (N * T)).length k4)) := ((hbe.out).trans (b4.mono (by omega))).setCell (Nat.le_refl _) _
   have RP := (R4.set (a := ⟨bx, 1, none⟩) (v := .slice p4 (digs (N * T)).length k4) n1).pute (.bool ng) (.slice p4 (digs (N * T)).length k4) (.slice pd (digs 1).length kd)
   have HD4 := Lib.hid ((((D4.setCell ⟨bx, 1, none⟩ (x := .slice p4 (digs (N * T)).length k4) (by simp; omega)).setCell ⟨w.heap.size + 1, 0, none⟩ (x := .bool ng) (by simp; omega)).setCell ⟨w.heap.size + 1, 1, none⟩ (x := .slice p4 (digs (N * T)).length k4) (by simp; omega)).setCell ⟨w.heap.size + 1, 2, none⟩ (x := .slice pd (digs 1).length kd) (by simp; omega) |>.base (B' := w.heap.size) (by omega))
   have HDd := Lib.hid (((((hden.out _ (hbw)).setCell ⟨w.heap.size + 1, 0, none⟩ (x := .bool ng) (by simp)).setCell ⟨w.heap.size + 1, 1, none⟩ (x := .slice p4 (digs (N * T)).length k4) (by simp)).setCell ⟨w.heap.size + 1, 2, none⟩ (x := .slice pd (digs 1).length kd) (by simp)).base (B' := w.heap.size) (by omega))
   have HB := Lib.hid (((((bl_then B2.out b4).setCell (p := ⟨bx, 1, none⟩) (by simp; omega) (.slice p4 (digs (N * T)).length k4)).setCell (p := ⟨w.heap.size + 1, 0, none⟩) (by simp) (.bool ng)).setCell (p := ⟨w.heap.size + 1, 1, none⟩) (by simp) (.slice p4 (digs (N * T)).length k4)).setCell (p := ⟨w.heap.size + 1, 2, none⟩) (by simp) (.slice pd (digs 1).length kd))
   refine wpAnyH_ready (rs := [7]) (by kernel_rfl) (by simp) ?_
   refine AllReadyH.cons rfl (fun K hK => ?_) AllReadyH.nil
   try simp only [List.getElem_toArray, List.getElem_cons_succ, List.getElem_cons_zero]
   go_simp
   refine hK.out _ _ ?_ (fun hHeld2 => ?_)
   · (first | go_keep | assumption | (rw [b4.cell (by simp <;> omega)]; assumption) | (rw [World.cell?_setCell_far _ _ _ _ (by simp; omega), b4.cell (by simp <;> omega)]; assumption))
   clear hK K hHeld
   have hHeld := hHeld2
   clear hHeld2
   try simp only [Act.put, List.setIfInBounds_toArray, List.set_cons_zero, List.set_cons_succ, List.getElem_toArray, List.getElem_cons_succ, List.getElem_cons_zero]
   refine wpAnyH_done (by kernel_rfl) ?_ _
   go_wp2
   exact bodyPost_ret (v := reV ng (.slice p4 (digs (N * T)).length k4) (.slice pd (digs 1).length kd)) (results_cell_row (p := 2) (ty := 52) rfl _ _ (w.heap.size + 1) 52 #[.bool ng, .slice p4 (digs (N * T)).length k4, .slice pd (digs 1).length kd] (0, 0) _ rfl RP Tryz.underlying52 rfl size_ex) rfl ⟨_, rfl, ⟨_, _, rfl, HD4.out, HDd.out⟩, HB.out⟩
 · try simp only [List.getElem_toArray, List.getElem_cons_succ, List.getElem_cons_zero]
   first
     | (go_at_call 53; refine (HP.out _).mono ?_; rintro e w3 ⟨y3, rfl, D3, hb⟩; have b3 := undrew hb; have Dn3 := (Dn2.drew.keep hb (Nat.le_refl _)); have X3 := X2.keep b3; have u1 := X3.at 1; clear hb)
     | (go_simp; (go_at_call 53; refine (HP.out _).mono ?_; rintro e w3 ⟨y3, rfl, D3, hb⟩; have b3 := undrew hb; have Dn3 := (Dn2.drew.keep hb (Nat.le_refl _)); have X3 := X2.keep b3; have u1 := X3.at 1; clear hb))
     | fail "CALL"
   try go_wp2_with fail
   refine hK.out _ _ ?_ (fun hHeld2 => ?_)
   · (first | go_keep | assumption | (rw [b3.cell (by simp <;> omega)]; assumption) | (rw [World.cell?_setCell_far _ _ _ _ (by simp; omega), b3.cell (by simp <;> omega)]; assumption))
   clear hK K hHeld
   have hHeld := hHeld2
   clear hHeld2
   try simp only [Act.put, List.setIfInBounds_toArray, List.set_cons_zero, List.set_cons_succ, List.getElem_toArray, List.getElem_cons_succ, List.getElem_cons_zero]
   refine wpAnyH_ready (rs := [1]) (by kernel_rfl) (by simp) ?_
   refine AllReadyH.cons rfl (fun K hK => ?_) AllReadyH.nil
   try simp only [List.getElem_toArray, List.getElem_cons_succ, List.getElem_cons_zero]
   go_simp
   refine hK.out _ _ ?_ (fun hHeld2 => ?_)
   · (first | go_keep | assumption | (rw [b3.cell (by simp <;> omega)]; assumption) | (rw [World.cell?_setCell_far _ _ _ _ (by simp; omega), b3.cell (by simp <;> omega)]; assumption))
   clear hK K hHeld
   have hHeld := hHeld2
   clear hHeld2
   try simp only [Act.put, List.setIfInBounds_toArray, List.set_cons_zero, List.set_cons_succ, List.getElem_toArray, List.getElem_cons_succ, List.getElem_cons_zero]
   refine wpAnyH_ready (rs := [5]) (by kernel_rfl) (by simp) ?_
   refine AllReadyH.cons rfl (fun K hK => ?_) AllReadyH.nil
   try simp only [List.getElem_toArray, List.getElem_cons_succ, List.getElem_cons_zero]
   first
     | (go_at_call 54; refine (HM.out _ _ _ _ _ Dn3 D3).mono ?_; rintro e w4 ⟨y4, rfl, D4, hb⟩; have b4 := b3.trans (hb.mono b3.size); have hz4 := hb.size; obtain ⟨p4, k4, rfl⟩ := D4.slice; have X4 := X2.keep b4; have R4 := R2.keep b4; have f1 := X4.free 1; have q1 := X4.at 1; clear hb)
     | (go_simp; (go_at_call 54; refine (HM.out _ _ _ _ _ Dn3 D3).mono ?_; rintro e w4 ⟨y4, rfl, D4, hb⟩; have b4 := b3.trans (hb.mono b3.size); have hz4 := hb.size; obtain ⟨p4, k4, rfl⟩ := D4.slice; have X4 := X2.keep b4; have R4 := R2.keep b4; have f1 := X4.free 1; have q1 := X4.at 1; clear hb))
     | fail "CALL"
   try go_wp2_with fail
   refine hK.out _ _ ?_ (fun hHeld2 => ?_)
   · (first | go_keep | assumption | (rw [b4.cell (by simp <;> omega)]; assumption) | (rw [b3.cell (by simp <;> omega)]; assumption) | (rw [World.cell?_setCell_far _ _ _ _ (by simp; omega), b4.cell (by simp <;> omega)]; assumption) | (rw [World.cell?_setCell_far _ _ _ _ (by simp; omega), b3.cell (by simp <;> omega)]; assumption))
   clear hK K hHeld
   have hHeld := hHeld2
   clear hHeld2
   try simp only [Act.put, List.setIfInBounds_toArray, List.set_cons_zero, List.set_cons_succ, List.getElem_toArray, List.getElem_cons_succ, List.getElem_cons_zero]
   first
     | (refine wpAnyH_take (i := 6) (v := undef) rfl (by kernel_rfl) (by kernel_rfl) (by kernel_rfl) (fun _ _ _ h => h) (Or.inr ⟨by rfl, rfl⟩) (by assumption) ?_)
     | (refine wpAnyH_take (i := 6) (v := ?_) rfl (by kernel_rfl) (by kernel_rfl) (by kernel_rfl) (fun _ _ _ h => h) (Or.inl ⟨by rfl, ?_⟩) (by assumption) ?_; rotate_left; (· intro w hSw; (try dsimp only at hSw); go_simp; (try with_reducible rfl)))
     | fail "TK 6"
   try simp only [Act.put, List.setIfInBounds_toArray, List.set_cons_zero, List.set_cons_succ, List.getElem_toArray, List.getElem_cons_succ, List.getElem_cons_zero]
   have hz5 : W0.heap.size ≤ w3.heap.size := b3.size
   obtain ⟨y0, y1, y2⟩ : w4.cell? ⟨bx, 0, none⟩ = some (.bool ng) ∧ w4.cell? ⟨bx, 1, none⟩ = some (.slice pn (digs N).length kn) ∧ w4.cell? ⟨bx, 2, none⟩ = some (.slice pd (digs 1).length kd) := ⟨X4.at 0, X4.at 1, X4.at 2⟩
   have f1 := X4.free 1
   obtain ⟨r0, r1, r2⟩ : w4.cell? ⟨w.heap.size + 1, 0, none⟩ = some (.bool false) ∧ w4.cell? ⟨w.heap.size + 1, 1, none⟩ = some (.slice none 0 0) ∧ w4.cell? ⟨w.heap.size + 1, 2, none⟩ = some (.slice none 0 0) := ⟨R4.at 0, R4.at 1, R4.at 2⟩
   have g0 := R4.free 0
   have g1 := R4.free 1
   have g2 := R4.free 2
   have n1 : ¬ bx = w.heap.size + 1 := by omega
   have n2 : ¬ w.heap.size + 1 = bx := by omega
   have hbw : Below bx w1 (w4.setCell ⟨bx, 1, none⟩ (.slice p4 (digs (N * T)).length k4)) := ((hbe.out).trans (b4.mono (by omega))).setCell (Nat.le_refl _) _
   have RP := (R4.set (a := ⟨bx, 1, none⟩) (v := .slice p4 (digs (N * T)).length k4) n1).pute (.bool ng) (.slice p4 (digs (N * T)).length k4) (.slice pd (digs 1).length kd)
   have HD4 := Lib.hid ((((D4.setCell ⟨bx, 1, none⟩ (x := .slice p4 (digs (N * T)).length k4) (by simp; omega)).setCell ⟨w.heap.size + 1, 0, none⟩ (x := .bool ng) (by simp; omega)).setCell ⟨w.heap.size + 1, 1, none⟩ (x := .slice p4 (digs (N * T)).length k4) (by simp; omega)).setCell ⟨w.heap.size + 1, 2, none⟩ (x := .slice pd (digs 1).length kd) (by simp; omega) |>.base (B' := w.heap.size) (by omega))
   have HDd := Lib.hid (((((hden.out _ (hbw)).setCell ⟨w.heap.size + 1, 0, none⟩ (x := .bool ng) (by simp)).setCell ⟨w.heap.size + 1, 1, none⟩ (x := .slice p4 (digs (N * T)).length k4) (by simp)).setCell ⟨w.heap.size + 1, 2, none⟩ (x := .slice pd (digs 1).length kd) (by simp)).base (B' := w.heap.size) (by omega))
   have HB := Lib.hid (((((bl_then B2.out b4).setCell (p := ⟨bx, 1, none⟩) (by simp; omega) (.slice p4 (digs (N * T)).length k4)).setCell (p := ⟨w.heap.size + 1, 0, none⟩) (by simp) (.bool ng)).setCell (p := ⟨w.heap.size + 1, 1, none⟩) (by simp) (.slice p4 (digs (N * T)).length k4)).setCell (p := ⟨w.heap.size + 1, 2, none⟩) (by simp) (.slice pd (digs 1).length kd))
   refine wpAnyH_ready (rs := [7]) (by kernel_rfl) (by simp) ?_
   refine AllReadyH.cons rfl (fun K hK => ?_) AllReadyH.nil
   try simp only [List.getElem_toArray, List.getElem_cons_succ, List.getElem_cons_zero]
   go_simp
   refine hK.out _ _ ?_ (fun hHeld2 => ?_)
   · (first | go_keep | assumption | (rw [b4.cell (by simp <;> omega)]; assumption) | (rw [World.cell?_setCell_far _ _ _ _ (by simp; omega), b4.cell (by simp <;> omega)]; assumption))
   clear hK K hHeld
   have hHeld := hHeld2
   clear hHeld2
   try simp only [Act.put, List.setIfInBounds_toArray, List.set_cons_zero, List.set_cons_succ, List.getElem_toArray, List.getElem_cons_succ, List.getElem_cons_zero]
   refine wpAnyH_done (by kernel_rfl) ?_ _
   go_wp2
   exact bodyPost_ret (v := reV ng (.slice p4 (digs (N * T)).length k4) (.slice pd (digs 1).length kd)) (results_cell_row (p := 2) (ty := 52) rfl _ _ (w.heap.size + 1) 52 #[.bool ng, .slice p4 (digs (N * T)).length k4, .slice pd (digs 1).length kd] (0, 0) _ rfl RP Tryz.underlying52 rfl size_ex) rfl ⟨_, rfl, ⟨_, _, rfl, HD4.out, HDd.out⟩, HB.out⟩
end Go.Proofs.YtpdoddhieblooaaGreatDoor
namespace Go.Proofs.YtpdoddhieblooaaGreatDoor
open Go.RowKit

def DArgP (P : Nat → Prop) (w : World) (v : Value) (n : Nat) : Prop :=
 (v = .slice none 0 0 ∧ n = 0) ∨ ∃ b cap, v = .slice (some ⟨b, 0, none⟩) (digs n).length cap ∧ (digs n).length ≤ cap ∧ P b ∧ b < w.heap.size ∧
   ∀ j (h : j < (digs n).length), w.cell? ⟨b, j, none⟩ = some (.int .i64 ((digs n)[j] : Int))
theorem DArgP.of {B : Nat} {w : World} {v : Value} {n : Nat} (h : DArg B w v n) : DArgP (fun c => B ≤ c) w v n := h
theorem DArgP.weak {P P' : Nat → Prop} {w : World} {v : Value} {n : Nat} (h : DArgP P w v n) (hP : ∀ c, c < w.heap.size → P c → P' c) : DArgP P' w v n := by
 rcases h with h | ⟨b, cap, rfl, h1, h2, h3, h4⟩
 · exact .inl h
 · exact .inr ⟨b, cap, rfl, h1, hP b h3 h2, h3, h4⟩
theorem DArgP.arg {P : Nat → Prop} {B : Nat} {w : World} {v : Value} {n : Nat} (h : DArgP P w v n) (hP : ∀ c, P c → B ≤ c) : DArg B w v n := h.weak (fun c _ hc => hP c hc)
theorem DArgP.keep {P : Nat → Prop} {w w' : World} {v : Value} {n : Nat} (h : DArgP P w v n) (hb : Below w.heap.size w w') : DArgP P w' v n := by
 have hs := hb.size
 rcases h with h | ⟨b, cap, rfl, h1, h2, h3, h4⟩
 · exact .inl h
 · exact .inr ⟨b, cap, rfl, h1, h2, by omega, fun j hj => (hb.cell (p := ⟨b, j, none⟩) h3).trans (h4 j hj)⟩
def RArgP (neg : Bool) (num den : Nat) (P : Nat → Prop) (w : World) (v : Value) : Prop := ∃ vn vd, v = reV neg vn vd ∧ DArgP P w vn num ∧ DArgP P w vd den
theorem RArgP.stays (neg : Bool) (num den : Nat) : Stays (RArgP neg num den) where
 keep := fun ⟨vn, vd, e, h1, h2⟩ hb => ⟨vn, vd, e, h1.keep hb, h2.keep hb⟩
 weak := fun ⟨vn, vd, e, h1, h2⟩ hP => ⟨vn, vd, e, h1.weak hP, h2.weak hP⟩
theorem givesR_G {w : World} {neg : Bool} {num den : Nat} {e : Ending} {w' : World} (h : GivesR w neg num den e w') : GivesG (RArgP neg num den) w e w' := by
 obtain ⟨v, rfl, ⟨vn, vd, e, h1, h2⟩, hb⟩ := h
 exact ⟨v, rfl, ⟨vn, vd, e, .of h1, .of h2⟩, hb⟩
theorem of_va (t : Va) (W : World) (hr : t.right) (hk : t.number) : Calls Tryz.prog 27 #[t.v] W (GivesR W (decide (t.n < 0)) t.num.natAbs t.den) := by
 obtain ⟨k, n, q, s⟩ := t
 obtain ⟨r1, r2, r3⟩ := hr
 rcases hk with hk | hk | hk
 · obtain rfl : k = 1 := hk
   obtain ⟨b1, b2, b3, b4⟩ := r1 rfl
   obtain ⟨m, hm⟩ := Int.eq_ofNat_of_zero_le b3
   have hm' : q = (m : Int) := hm
   subst hm'
   have h := of_1 n m s W (by have : -2147483648 < n := b1; omega) (by have : n < 2147483648 := b2; omega) (by have : (m : Int) ≤ 31 := b4; omega)
   exact h
 · obtain rfl : k = 2 := hk
   obtain ⟨b1, b2, b3, b4⟩ := r2 rfl
   obtain ⟨m, hm⟩ := Int.eq_ofNat_of_zero_le b3
   have hm' : q = (m : Int) := hm
   subst hm'
   have h := of_2 n m s W (by have : -1000000000000000 < n := b1; omega) (by have : n < 1000000000000000 := b2; omega) (by have : (m : Int) ≤ 31 := b4; omega)
   exact h
 · obtain rfl : k = 3 := hk
   obtain ⟨b1, b2, b3, b4⟩ := r3 rfl
   have c1 : -9223372036854775807 < n := by have : -1000000000000000 < n := b1; omega
   have c2 : n < 9223372036854775807 := by have : n < 1000000000000000 := b2; omega
   have c3 : -1000 ≤ q := b3
   have c4 : q ≤ 1000 := b4
   show Calls _ _ #[valV 3 n q s] W (GivesR W (decide (n < 0)) (Va.num ⟨3, n, q, s⟩).natAbs (Va.den ⟨3, n, q, s⟩))
   by_cases hq : q < 0
   · obtain ⟨m, rfl⟩ : ∃ m : Nat, q = -(m : Int) := ⟨(-q).toNat, by omega⟩
     have e1 : Va.num ⟨3, n, -(m : Int), s⟩ = n := by show (if (3 : Int) = 3 then shN n (-(m : Int)) else n) = n; rw [if_pos rfl, shN, if_pos hq]
     have e2 : Va.den ⟨3, n, -(m : Int), s⟩ = 10 ^ m := by
       show (if (3 : Int) = 3 then shU 1 (-(m : Int)) else _) = 10 ^ m
       rw [if_pos rfl, shU, if_pos hq, Nat.one_mul, Int.neg_neg, Int.toNat_natCast]
     rw [e1, e2]
     exact of_3n n m s W c1 c2 (by omega) (by omega)
   · obtain ⟨m, rfl⟩ := Int.eq_ofNat_of_zero_le (show 0 ≤ q by omega)
     have e1 : (Va.num ⟨3, n, (m : Int), s⟩).natAbs = n.natAbs * 10 ^ m := by
       show (if (3 : Int) = 3 then shN n (m : Int) else n).natAbs = _
       rw [if_pos rfl, shN, if_neg hq, Int.natAbs_mul, Int.natAbs_natCast, Int.toNat_natCast]
     have e2 : Va.den ⟨3, n, (m : Int), s⟩ = 1 := by
       show (if (3 : Int) = 3 then shU 1 (m : Int) else _) = 1
       rw [if_pos rfl, shU, if_neg hq]
     rw [e1, e2]
     exact of_3p n m s W c1 c2 (by omega)
theorem len_ten {m : Nat} : (digs (10 ^ m)).length = m + 1 := digs_len_pow10 m
end Go.Proofs.YtpdoddhieblooaaGreatDoor
