/- The law RuleRoom: its arguments' boxes, the types that the rules tell, and what the sums and products are. -/
import Derived.Test.YtbjnglfapgpncaaGreatDoorHas
import Derived.Test.YtbjnglfapgpncaaGreatDoorExBoth
import Derived.Test.YtbjnglfapgpncaaGreatDoorExTurn
import Derived.Test.YtbjnglfapgpncaaGreatDoorExFitA
import Derived.Test.YtbjnglfapgpncaaGreatDoorExFitB
import Derived.Test.YtbjnglfapgpncaaGreatDoorExOf
import Derived.Deep.DeepCutAuto
namespace Go.Proofs.YtbjnglfapgpncaaGreatDoor
open Go.RowKit

abbrev valO (k n q : Int) : Obj := .cells #[.int .i64 k, .int .i64 n, .int .i64 q, .string ⟨#[]⟩] 23
abbrev tyO (k p q : Int) : Obj := .cells #[.int .i64 k, .int .i64 p, .int .i64 q, .int .i64 0, .bool false, .string ⟨#[]⟩] 25

/-- The law's four arguments, boxed. -/
structure Boxes (w W : World) (k na nb : Int) (PA QA PB QB : Nat) : Prop where
  a : W.heap[w.heap.size]? = some (valO k na (QA : Int))
  b : W.heap[w.heap.size + 1]? = some (valO k nb (QB : Int))
  ta : W.heap[w.heap.size + 1 + 1]? = some (tyO k (PA : Int) (QA : Int))
  tb : W.heap[w.heap.size + 1 + 1 + 1]? = some (tyO k (PB : Int) (QB : Int))
  lt : w.heap.size + 1 + 1 + 1 < W.heap.size
  below : Below w.heap.size w W

theorem Boxes.keep {w W W' : World} {k na nb : Int} {PA QA PB QB : Nat} (h : Boxes w W k na nb PA QA PB QB) (hb : Below W.heap.size W W') : Boxes w W' k na nb PA QA PB QB :=
  ⟨hx_keep h.a hb, hx_keep h.b hb, hx_keep h.ta hb, hx_keep h.tb hb, Nat.lt_of_lt_of_le h.lt hb.size, h.below.trans (hb.mono h.below.size)⟩

/-- What the rules tell of a sum and of a product of two fixed types of one base. -/
structure Tells2 (M : Int) (PA QA PB QB P3 Q3 P4 Q4 : Nat) : Prop where
  p3 : (P3 : Int) = min M (max 1 (max ((PA : Int) - QA) ((PB : Int) - QB) + max (QA : Int) QB + 1))
  q3 : (Q3 : Int) = max (QA : Int) QB
  p4 : (P4 : Int) = min M ((PA : Int) + PB + 1)
  q4 : (Q4 : Int) = min 31 ((QA : Int) + QB)

theorem res_plus_1 {PA QA PB QB P3 Q3 P4 Q4 : Nat} (h : Tells2 31 PA QA PB QB P3 Q3 P4 Q4) (w : World) (hA : NumB 1 (PA : Int) (QA : Int)) (hB : NumB 1 (PB : Int) (QB : Int)) :
    Calls Tryz.prog 6 #[.string ⟨#[43]⟩, tyV 1 (PA : Int) (QA : Int) 0 false ⟨#[]⟩, tyV 1 (PB : Int) (QB : Int) 0 false ⟨#[]⟩] w fun e w' => e = .returned (.tuple #[tyV 1 (P3 : Int) (Q3 : Int) 0 false ⟨#[]⟩, .int .i64 0]) ∧ Below w.heap.size w w' := by
  have r := Result_plus 1 PA QA 1 PB QB w hA hB
  have e1 : base 1 1 = 1 := by decide
  have e2 : rP 0 1 1 PA QA 1 PB QB = (P3 : Int) := by rw [h.p3]; rfl
  have e3 : rQ 0 1 1 PA QA 1 QB = (Q3 : Int) := by rw [h.q3]; rfl
  rw [e1, e2, e3] at r
  exact r
theorem res_times_1 {PA QA PB QB P3 Q3 P4 Q4 : Nat} (h : Tells2 31 PA QA PB QB P3 Q3 P4 Q4) (w : World) (hA : NumB 1 (PA : Int) (QA : Int)) (hB : NumB 1 (PB : Int) (QB : Int)) :
    Calls Tryz.prog 6 #[.string ⟨#[42]⟩, tyV 1 (PA : Int) (QA : Int) 0 false ⟨#[]⟩, tyV 1 (PB : Int) (QB : Int) 0 false ⟨#[]⟩] w fun e w' => e = .returned (.tuple #[tyV 1 (P4 : Int) (Q4 : Int) 0 false ⟨#[]⟩, .int .i64 0]) ∧ Below w.heap.size w w' := by
  have r := Result_times 1 PA QA 1 PB QB w hA hB
  have e1 : base 1 1 = 1 := by decide
  have e2 : rP 2 1 1 PA QA 1 PB QB = (P4 : Int) := by rw [h.p4]; rfl
  have e3 : rQ 2 1 1 PA QA 1 QB = (Q4 : Int) := by rw [h.q4]; rfl
  rw [e1, e2, e3] at r
  exact r
theorem res_plus_2 {PA QA PB QB P3 Q3 P4 Q4 : Nat} (h : Tells2 15 PA QA PB QB P3 Q3 P4 Q4) (w : World) (hA : NumB 2 (PA : Int) (QA : Int)) (hB : NumB 2 (PB : Int) (QB : Int)) :
    Calls Tryz.prog 6 #[.string ⟨#[43]⟩, tyV 2 (PA : Int) (QA : Int) 0 false ⟨#[]⟩, tyV 2 (PB : Int) (QB : Int) 0 false ⟨#[]⟩] w fun e w' => e = .returned (.tuple #[tyV 2 (P3 : Int) (Q3 : Int) 0 false ⟨#[]⟩, .int .i64 0]) ∧ Below w.heap.size w w' := by
  have r := Result_plus 2 PA QA 2 PB QB w hA hB
  have e1 : base 2 2 = 2 := by decide
  have e2 : rP 0 2 2 PA QA 2 PB QB = (P3 : Int) := by rw [h.p3]; rfl
  have e3 : rQ 0 2 2 PA QA 2 QB = (Q3 : Int) := by rw [h.q3]; rfl
  rw [e1, e2, e3] at r
  exact r
theorem res_times_2 {PA QA PB QB P3 Q3 P4 Q4 : Nat} (h : Tells2 15 PA QA PB QB P3 Q3 P4 Q4) (w : World) (hA : NumB 2 (PA : Int) (QA : Int)) (hB : NumB 2 (PB : Int) (QB : Int)) :
    Calls Tryz.prog 6 #[.string ⟨#[42]⟩, tyV 2 (PA : Int) (QA : Int) 0 false ⟨#[]⟩, tyV 2 (PB : Int) (QB : Int) 0 false ⟨#[]⟩] w fun e w' => e = .returned (.tuple #[tyV 2 (P4 : Int) (Q4 : Int) 0 false ⟨#[]⟩, .int .i64 0]) ∧ Below w.heap.size w w' := by
  have r := Result_times 2 PA QA 2 PB QB w hA hB
  have e1 : base 2 2 = 2 := by decide
  have e2 : rP 2 2 2 PA QA 2 PB QB = (P4 : Int) := by rw [h.p4]; rfl
  have e3 : rQ 2 2 2 PA QA 2 QB = (Q4 : Int) := by rw [h.q4]; rfl
  rw [e1, e2, e3] at r
  exact r

/-- A sum or a difference fits. -/
theorem room_fit {B na nb PA QA PB QB P3 Q3 P4 Q4 num : Nat} {M : Int} (hB : 2 ≤ B) (ha : na < B ^ PA) (hb : nb < B ^ PB) (h1 : 1 ≤ PA) (h2 : 1 ≤ PB) (ht : Tells2 M PA QA PB QB P3 Q3 P4 Q4)
    (hp : (P3 : Int) = max 1 (max ((PA : Int) - QA) ((PB : Int) - QB) + Q3 + 1)) (hnum : num ≤ na * B ^ QB + nb * B ^ QA) : num * B ^ Q3 / (B ^ QA * B ^ QB) < B ^ P3 := by
  have hq := ht.q3
  have e3 : Q3 = max QA QB := by omega
  have h := sum_room (E := P3 - 1) hB ha hb hnum (by omega) (by omega)
  rw [show P3 - 1 + 1 = P3 by omega, ← e3] at h
  exact h

theorem bothNum_le (x y : Bool) (A C : Nat) : bothNum x y A C ≤ A + C := by
  unfold bothNum
  split
  · omega
  · split <;> omega

theorem times_fit {B na nb PA QA PB QB P3 Q3 P4 Q4 : Nat} {M : Int} (hB : 2 ≤ B) (ha : na < B ^ PA) (hb : nb < B ^ PB) (ht : Tells2 M PA QA PB QB P3 Q3 P4 Q4)
    (h1 : (PA : Int) + PB + 1 ≤ M) (h2 : (QA : Int) + QB ≤ 31) : na * nb * B ^ Q4 / (B ^ QA * B ^ QB) = na * nb ∧ na * nb < B ^ P4 := by
  have hq := ht.q4
  have hp := ht.p4
  have e4 : Q4 = QA + QB := by omega
  have e5 : P4 = PA + PB + 1 := by omega
  subst e4 e5
  exact ⟨times_cut hB, times_room hB ha hb⟩
theorem fitE_1 {B P Q : Nat} {big : Int} {w : World} {u : Value} {neg : Bool} {num den : Nat} (hx : XArg B w u neg num den) (hd : 0 < den) (ln : (digs num).length ≤ 1000) (ld : (digs den).length ≤ 1000)
    (hP : P ≤ 31) (hQ : Q ≤ 62) (q : Nat) (hq : num * 2 ^ Q / den = q) (hfit : q < 2 ^ P) :
    Calls Tryz.prog 7 #[u, tyV 1 (P : Int) (Q : Int) 0 false ⟨#[]⟩, .int .i64 big] w fun e w' => ∃ N : Int, e = .returned (.tuple #[valV 1 N (Q : Int) ⟨#[]⟩, .int .i64 0]) ∧ Below w.heap.size w w' :=
  (fit_1_in hx hd ln ld hP hQ q hq hfit).mono fun _ _ ⟨he, hb⟩ => ⟨_, he, hb⟩

theorem fitE_2 {B P Q : Nat} {big : Int} {w : World} {u : Value} {neg : Bool} {num den : Nat} (hx : XArg B w u neg num den) (hd : 0 < den) (ln : (digs num).length ≤ 1000) (ld : (digs den).length ≤ 1000)
    (hP : P ≤ 15) (hQ : Q ≤ 62) (q : Nat) (hq : num * 10 ^ Q / den = q) (hfit : q < 10 ^ P) :
    Calls Tryz.prog 7 #[u, tyV 2 (P : Int) (Q : Int) 0 false ⟨#[]⟩, .int .i64 big] w fun e w' => ∃ N : Int, e = .returned (.tuple #[valV 2 N (Q : Int) ⟨#[]⟩, .int .i64 0]) ∧ Below w.heap.size w w' :=
  (fit_2_in hx hd ln ld hP hQ q hq hfit).mono fun _ _ ⟨he, hb⟩ => ⟨_, he, hb⟩

theorem turn_e {B : Nat} {w : World} {v : Value} {neg r : Bool} {num den : Nat} (hr : (!neg && decide (0 < num)) = r) (h : XArg B w v neg num den) :
    Calls Tryz.prog 10 #[v] w fun e w' => ∃ v', e = .returned v' ∧ XArg B w' v' r num den ∧ Below w.heap.size w w' := by subst hr; exact turn_d h

theorem Boxes.keepB {C : Nat} {w W W' : World} {k na nb : Int} {PA QA PB QB : Nat} (h : Boxes w W k na nb PA QA PB QB) (hb : Below C W W') (hC : w.heap.size + 1 + 1 + 1 < C) : Boxes w W' k na nb PA QA PB QB :=
  ⟨(hb.block _ (by omega)).trans h.a, (hb.block _ (by omega)).trans h.b, (hb.block _ (by omega)).trans h.ta, (hb.block _ (by omega)).trans h.tb, Nat.lt_of_lt_of_le h.lt hb.size, h.below.trans (hb.mono (by omega))⟩

theorem XArg.setCell {B : Nat} {w : World} {v : Value} {neg : Bool} {num den : Nat} (h : XArg B w v neg num den) {q : Addr} (hq : q.block < B) (y : Value) : XArg B (w.setCell q y) v neg num den := by
  obtain ⟨vn, vd, rfl, h1, h2⟩ := h
  exact ⟨vn, vd, rfl, h1.setCell q hq, h2.setCell q hq⟩

theorem times_e {B C : Nat} {w : World} {u v : Value} {na nb r : Bool} {a b c d : Nat} (hr : timesN na nb (a * c) = r) (hx : XArg B w u na a b) (hy : XArg C w v nb c d)
    (la : (digs a).length ≤ 10000) (lb : (digs b).length ≤ 10000) (lc : (digs c).length ≤ 10000) (ld : (digs d).length ≤ 10000) :
    Calls Tryz.prog 11 #[u, v] w (GivesX w r (a * c) (b * d)) := by subst hr; exact times_d hx hy la lb lc ld

theorem times_f {B C PR : Nat} {w : World} {u v : Value} {na nb r : Bool} {a b c d : Nat} (hp : a * c = PR) (hr : timesN na nb PR = r) (hx : XArg B w u na a b) (hy : XArg C w v nb c d)
    (la : (digs a).length ≤ 10000) (lb : (digs b).length ≤ 10000) (lc : (digs c).length ≤ 10000) (ld : (digs d).length ≤ 10000) :
    Calls Tryz.prog 11 #[u, v] w (GivesX w r PR (b * d)) := by subst hp; exact times_e hr hx hy la lb lc ld

/-- A product lies in a block of the call's own. -/
def PRel (W9 wx : World) (NT : Bool) (PR D : Nat) (s : Value) : Prop :=
  ∃ (g : Nat) (pn pd : Option Addr) (kn kd : Nat), s = .pointer (some ⟨g, 0, none⟩) ∧ wx.cell? ⟨g, 0, none⟩ = some (.bool NT) ∧ wx.cell? ⟨g, 1, none⟩ = some (.slice pn (digs PR).length kn) ∧ wx.cell? ⟨g, 2, none⟩ = some (.slice pd (digs D).length kd) ∧
    XArg W9.heap.size wx (exV NT (.slice pn (digs PR).length kn) (.slice pd (digs D).length kd)) NT PR D ∧ g < wx.heap.size ∧ W9.heap.size ≤ g ∧ Below W9.heap.size W9 wx

theorem prel_last {B : Nat} {W9 w6 : World} {NT : Bool} {PR D kn kd : Nat} {pn pd : Option Addr} (X : XArg B w6 (exV NT (.slice pn (digs PR).length kn) (.slice pd (digs D).length kd)) NT PR D) (hB : W9.heap.size ≤ B) (b : Below W9.heap.size W9 w6) :
    PRel W9 (w6.alloc (.cells #[.bool NT, .slice pn (digs PR).length kn, .slice pd (digs D).length kd] 35)) NT PR D (.pointer (some ⟨w6.heap.size, 0, none⟩)) := by
  have hs := b.size
  obtain ⟨c0, c1, c2, _⟩ := hcells (hx_last w6 (.cells #[.bool NT, .slice pn (digs PR).length kn, .slice pd (digs D).length kd] 35) _ rfl)
  exact ⟨w6.heap.size, pn, pd, kn, kd, rfl, c0, c1, c2, (X.keep ((Below.refl w6.heap.size w6).alloc (Nat.le_refl _) _) (Nat.le_refl _)).base hB, by simp, hs, b.alloc hs _⟩

theorem prel_set {B z : Nat} {W9 w6 : World} {NT : Bool} {PR D kn kd : Nat} {pn pd : Option Addr} {d0 d1 d2 : Value} (Z : w6.heap[z]? = some (.cells #[d0, d1, d2] 35))
    (X : XArg B w6 (exV NT (.slice pn (digs PR).length kn) (.slice pd (digs D).length kd)) NT PR D) (hB : W9.heap.size ≤ B) (hz : z < B) (hz9 : W9.heap.size ≤ z) (b : Below W9.heap.size W9 w6) :
    PRel W9 (((w6.setCell ⟨z, 0, none⟩ (.bool NT)).setCell ⟨z, 1, none⟩ (.slice pn (digs PR).length kn)).setCell ⟨z, 2, none⟩ (.slice pd (digs D).length kd)) NT PR D (.pointer (some ⟨z, 0, none⟩)) := by
  obtain ⟨c0, c1, c2, _⟩ := hcells Z
  have zl := hx_lt Z
  exact ⟨z, pn, pd, kn, kd, rfl, by simp [go_sem, c0], by simp [go_sem, c1], by simp [go_sem, c2], (((X.setCell hz _).setCell hz _).setCell hz _).base hB, by simpa using zl, hz9, ((b.setCell hz9 _).setCell hz9 _).setCell hz9 _⟩

/-- A number below its type's bound is kept with its sign. -/
theorem sgn_parts (NT : Bool) (PR X : Nat) (h : PR < X) (hp : NT = true → 0 < PR) (h15 : PR < 1000000000000000) :
    ∃ NV : Int, sgn NT (PR % X) = NV ∧ decide (NV < 0) = NT ∧ NV.natAbs = PR ∧ (-1000000000000000 < NV ∧ NV < 1000000000000000) := by
  refine ⟨_, rfl, ?_, ?_, ?_⟩
  all_goals
    rw [Nat.mod_eq_of_lt h]
    unfold sgn
    cases NT
    · simp <;> omega
    · have := hp rfl
      simp <;> omega
end Go.Proofs.YtbjnglfapgpncaaGreatDoor
