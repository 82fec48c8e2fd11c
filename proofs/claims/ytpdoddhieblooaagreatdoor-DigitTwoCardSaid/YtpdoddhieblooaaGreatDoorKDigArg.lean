/- A slice that holds a number's digits, as an argument and as a result; the functions of digits in these words. ironbarkref01.Less in the words of DArg. Long division place by place, on lists of digits: no program in this text. ironbarkref01.Div: the digits of a quotient and of a rest: the walk. -/
import Derived.Test.YtpdoddhieblooaaGreatDoorKDigMul
import Derived.Test.YtpdoddhieblooaaGreatDoorKDigFrom
import Derived.Deep.RegionHeld
import Derived.Laws.AppendOwnNone
import Derived.Deep.LoopGhost
namespace Go.Proofs.YtpdoddhieblooaaGreatDoor
open Go.RowKit

def DArg (B : Nat) (w : World) (v : Value) (n : Nat) : Prop :=
 (v = .slice none 0 0 ∧ n = 0) ∨ ∃ b cap, v = .slice (some ⟨b, 0, none⟩) (digs n).length cap ∧ (digs n).length ≤ cap ∧ B ≤ b ∧ b < w.heap.size ∧
   ∀ j (h : j < (digs n).length), w.cell? ⟨b, j, none⟩ = some (.int .i64 ((digs n)[j] : Int))
theorem DArg.of_own {B : Nat} {w : World} {v : Value} {n : Nat} (h : w.ownsRow B 3 1 v (digs n).length (dcells (digs n))) : DArg B w v n := by
 rcases h.2 with ⟨rfl, h0⟩ | ⟨g, cap, cur, rfl, hB, hg, hn, hm, hs, htk⟩
 · left
   refine ⟨rfl, ?_⟩
   have := List.length_eq_zero_iff.1 h0
   rw [← val_digs n, this]; rfl
 · right
   refine ⟨g, cap, rfl, hn, hB, (Array.getElem?_eq_some_iff.1 hg).1, ?_⟩
   intro j hj
   have := h.cells (g := g) rfl j (.int .i64 ((digs n)[j] : Int)) (by simp [dcells, List.getElem?_eq_getElem hj])
   rw [add_head] at this
   exact this
theorem DArg.parts {B : Nat} {w : World} {v : Value} {n : Nat} (h : DArg B w v n) :
   ∃ p b cap, v = .slice p (digs n).length cap ∧ (0 < (digs n).length → p = some ⟨b, 0, none⟩) ∧ (digs n).length ≤ cap ∧
     (∀ j (h : j < (digs n).length), w.cell? ⟨b, j, none⟩ = some (.int .i64 ((digs n)[j] : Int))) ∧ (0 < (digs n).length → b < w.heap.size) := by
 rcases h with ⟨rfl, rfl⟩ | ⟨b, cap, rfl, h1, h2, h3, h4⟩
 · have e : digs 0 = [] := digs_zero
   exact ⟨none, 0, 0, by rw [e]; rfl, fun h => by rw [e] at h; exact absurd h (by simp), by rw [e]; simp, fun j h => by rw [e] at h; exact absurd h (by simp), fun h => by rw [e] at h; exact absurd h (by simp)⟩
 · exact ⟨_, b, cap, rfl, fun _ => rfl, h1, h4, fun _ => h3⟩
theorem DArg.keep {B C : Nat} {w w' : World} {v : Value} {n : Nat} (h : DArg B w v n) (hb : Below C w w') (hC : w.heap.size ≤ C) : DArg B w' v n := by
 have hs := hb.size
 rcases h with h | ⟨b, cap, rfl, h1, h2, h3, h4⟩
 · exact .inl h
 · exact .inr ⟨b, cap, rfl, h1, h2, by omega, fun j hj => (hb.cell (p := ⟨b, j, none⟩) (show b < C by omega)).trans (h4 j hj)⟩
theorem DArg.base {B B' : Nat} {w : World} {v : Value} {n : Nat} (h : DArg B w v n) (hB : B' ≤ B) : DArg B' w v n := by
 rcases h with h | ⟨b, cap, rfl, h1, h2, h3, h4⟩
 · exact .inl h
 · exact .inr ⟨b, cap, rfl, h1, by omega, h3, h4⟩
theorem DArg.setCell {B : Nat} {w : World} {v x : Value} {n : Nat} (h : DArg B w v n) (q : Addr) (hq : q.block < B) : DArg B (w.setCell q x) v n := by
 rcases h with h | ⟨b, cap, rfl, h1, h2, h3, h4⟩
 · exact .inl h
 · exact .inr ⟨b, cap, rfl, h1, h2, by simpa using h3, fun j hj => (World.cell?_setCell_far w q ⟨b, j, none⟩ x (show q.block ≠ b by omega)).trans (h4 j hj)⟩
theorem DArg.drew {B : Nat} {w : World} {v : Value} {n : Nat} (h : DArg B w v n) : DArg B w.drew v n := h.keep (C := w.heap.size) ((Below.refl _ w).drew) (Nat.le_refl _)
theorem DArg.slice {B : Nat} {w : World} {v : Value} {n : Nat} (h : DArg B w v n) : ∃ p cap, v = .slice p (digs n).length cap := by
 obtain ⟨p, b, cap, rfl, _⟩ := h.parts
 exact ⟨p, cap, rfl⟩
def Gives (w : World) (n : Nat) (e : Ending) (w' : World) : Prop := ∃ v, e = .returned v ∧ DArg w.heap.size w' v n ∧ Below w.heap.size w w'
theorem gives_of {w : World} {n : Nat} {e : Ending} {w' : World} (h : ∃ v, e = .returned v ∧ w'.ownsRow w.heap.size 3 1 v (digs n).length (dcells (digs n)) ∧ Below w.heap.size w w') : Gives w n e w' := by
 obtain ⟨v, he, ho, hb⟩ := h
 exact ⟨v, he, .of_own ho, hb⟩
theorem from_d (n : Nat) (w : World) (hn : n < 9223372036854775808) : Calls Tryz.prog 106 #[.int .i64 (n : Int)] w (Gives w n) :=
 (from_any n w hn).mono fun _ _ h => gives_of h
theorem plus_d {B C a b : Nat} {va vb : Value} {w : World} (hA : DArg B w va a) (hB : DArg C w vb b) (la : (digs a).length ≤ 100000) (lb : (digs b).length ≤ 100000) :
   Calls Tryz.prog 71 #[va, vb] w (Gives w (a + b)) := by
 obtain ⟨pa, ba, ca, rfl, a1, a2, a3, a4⟩ := hA.parts
 obtain ⟨pb, bb, cb, rfl, b1, b2, b3, b4⟩ := hB.parts
 have h := plus_any pa pb ba bb ca cb _ _ w (digs_digs a) (digs_digs b) a1 b1 a2 b2 a3 b3 la lb a4 b4
 rw [val_digs, val_digs] at h
 exact h.mono fun _ _ h => gives_of h
theorem mul_d {B C a b : Nat} {va vb : Value} {w : World} (hA : DArg B w va a) (hB : DArg C w vb b) (la : (digs a).length ≤ 10000) (lb : (digs b).length ≤ 10000) :
   Calls Tryz.prog 54 #[va, vb] w (Gives w (a * b)) := by
 obtain ⟨pa, ba, ca, rfl, a1, a2, a3, a4⟩ := hA.parts
 obtain ⟨pb, bb, cb, rfl, b1, b2, b3, b4⟩ := hB.parts
 have h := mul_any pa pb ba bb ca cb _ _ w (digs_digs a) (digs_digs b) a1 b1 a2 b2 a3 b3 la lb a4 b4
 rw [val_digs, val_digs] at h
 exact h.mono fun _ _ h => gives_of h
theorem pow2_d (n : Nat) (w : World) (hn : n ≤ 100) : Calls Tryz.prog 53 #[.int .i64 2, .int .i64 (n : Int)] w (Gives w (2 ^ n)) :=
 (pow2_any n w hn).mono fun _ _ h => gives_of h
theorem pow10_d (n : Nat) (w : World) (hn : n ≤ 100000) : Calls Tryz.prog 53 #[.int .i64 10, .int .i64 (n : Int)] w (Gives w (10 ^ n)) :=
 (pow10_any n w hn).mono fun _ _ h => gives_of h
theorem int_d {B n : Nat} {v : Value} {w : World} (h : DArg B w v n) (h18 : (digs n).length ≤ 18) :
   Calls Tryz.prog 117 #[v] w fun e w' => e = .returned (.int .i64 (n : Int)) ∧ w = w' := by
 obtain ⟨p, b, c, rfl, a1, a2, a3, a4⟩ := h.parts
 have h := int_any p b c _ w (digs_digs n) a1 a2 a3 h18
 rwa [val_digs] at h
theorem cmp_d {B C a b : Nat} {va vb : Value} {w : World} (hA : DArg B w va a) (hB : DArg C w vb b) (la : (digs a).length ≤ 100000) (lb : (digs b).length ≤ 100000) :
   Calls Tryz.prog 70 #[va, vb] w fun e w' => e = .returned (.int .i64 (ord a b)) ∧ Below w.heap.size w w' := by
 obtain ⟨pa, ba, ca, rfl, a1, a2, a3, a4⟩ := hA.parts
 obtain ⟨pb, bb, cb, rfl, b1, b2, b3, b4⟩ := hB.parts
 by_cases hl : (digs a).length = (digs b).length
 · have h := cmp_near pa pb ba bb ca cb _ _ w (digs_digs a) (digs_digs b) hl.symm a1 b1 a2 b2 a3 b3 (by omega) a4 (fun h => b4 (by omega))
   rw [val_digs, val_digs, hl] at h
   rw [hl]; exact h
 · have h := cmp_far pa pb ca cb _ _ w (digs_digs a) (digs_digs b) (digs_neat a) (digs_neat b) hl (by omega) (by omega)
   rw [val_digs, val_digs] at h
   exact h.mono fun _ _ ⟨he, hw⟩ => ⟨he, hw ▸ Below.refl _ _⟩
theorem digs_len_mono {a b : Nat} (h : a ≤ b) : (digs a).length ≤ (digs b).length :=
 length_le_of_val (digs_digs b) (digs_neat a) (by rw [val_digs, val_digs]; exact h)
theorem digs_lt (n : Nat) : n < 10 ^ (digs n).length := by have := val_lt (digs n) (digs_digs n); rwa [val_digs] at this
theorem digs_len_mul (a b : Nat) : (digs (a * b)).length ≤ (digs a).length + (digs b).length := by
 refine digs_length _ _ ?_
 rw [Nat.pow_add]
 exact Nat.mul_lt_mul'' (digs_lt a) (digs_lt b)
theorem digs_len_add (a b : Nat) : (digs (a + b)).length ≤ max (digs a).length (digs b).length + 1 := by
 refine digs_length _ _ ?_
 have h1 := Nat.lt_of_lt_of_le (digs_lt a) (Nat.pow_le_pow_right (by decide : 10 > 0) (Nat.le_max_left (digs a).length (digs b).length))
 have h2 := Nat.lt_of_lt_of_le (digs_lt b) (Nat.pow_le_pow_right (by decide : 10 > 0) (Nat.le_max_right (digs a).length (digs b).length))
 rw [Nat.pow_succ]; omega
theorem digs_len_pow10 (n : Nat) : (digs (10 ^ n)).length = n + 1 := by rw [digs_ten]; simp
theorem digs_len_pow2 (n : Nat) : (digs (2 ^ n)).length ≤ n + 1 := by
 refine digs_length _ _ (Nat.lt_of_lt_of_le (Nat.pow_lt_pow_right (by decide : 1 < 2) (Nat.lt_succ_self n)) (Nat.pow_le_pow_left (by decide) _))
theorem digs_len_zero {n : Nat} (h : (digs n).length = 0) : n = 0 := by
 have := List.length_eq_zero_iff.1 h
 rw [← val_digs n, this]; rfl
theorem digs_len_pos {n : Nat} (h : 0 < n) : 0 < (digs n).length := by
 rcases Nat.eq_zero_or_pos (digs n).length with h0 | h0
 · have := digs_len_zero h0; omega
 · exact h0
theorem digs_len_not {n : Nat} (h : ¬ 0 < n) : ¬ 0 < (digs n).length := by
 have : n = 0 := by omega
 subst this
 rw [digs_zero]; simp
end Go.Proofs.YtpdoddhieblooaaGreatDoor
namespace Go.Proofs.YtpdoddhieblooaaGreatDoor
open Go.RowKit
theorem less_d {B C a b : Nat} {va vb : Value} {w : World} (hA : DArg B w va a) (hB : DArg C w vb b) (hle : b ≤ a) (hpos : 0 < a) (la : (digs a).length ≤ 100000) :
   Calls Tryz.prog 72 #[va, vb] w (Gives w (a - b)) := by
 obtain ⟨pa, ba, ca, rfl, a1, a2, a3, a4⟩ := hA.parts
 obtain ⟨pb, bb, cb, rfl, b1, b2, b3, b4⟩ := hB.parts
 have hp := digs_len_pos hpos
 have := a1 hp
 subst this
 have h := less_any pb ba bb ca cb _ _ w (digs_digs a) (digs_digs b) (by rw [val_digs, val_digs]; exact hle) hp b1 a2 b2 a3 b3 la (Nat.le_trans (digs_len_mono hle) la) (a4 hp) b4
 rw [val_digs, val_digs] at h
 exact h.mono fun _ _ h => gives_of h
end Go.Proofs.YtpdoddhieblooaaGreatDoor
namespace Go.Proofs.YtpdoddhieblooaaGreatDoor

theorem drop_set_at {l : List Nat} {i : Nat} (h : i < l.length) (c : Nat) : (l.set i c).drop i = c :: l.drop (i + 1) := by
 rw [List.drop_eq_getElem_cons (by simpa using h), List.getElem_set_self, List.drop_set_of_lt (by omega)]
theorem div_step {A l : List Nat} {i R B c R' : Nat} (hi : i < A.length) (hl : l.length = A.length) (h : B * val (l.drop (i + 1)) + R = val (A.drop (i + 1))) (hs : R' + c * B = A[i] + 10 * R) :
   B * val ((l.set i c).drop i) + R' = val (A.drop i) := by
 rw [drop_set_at (by omega) c, val_cons, val_drop A i, List.getElem?_eq_getElem hi]
 show _ = A[i] + 10 * val (A.drop (i + 1))
 rw [← h, Nat.mul_add, Nat.mul_add, Nat.mul_comm B c]
 have e : B * (10 * val (l.drop (i + 1))) = 10 * (B * val (l.drop (i + 1))) := by rw [Nat.mul_left_comm]
 omega
theorem div_digit {R B c R' d : Nat} (hR : R < B) (hd : d < 10) (hs : R' + c * B = d + 10 * R) : c < 10 := by
 apply Decidable.byContradiction
 intro hc
 have : 10 * B ≤ c * B := Nat.mul_le_mul_right _ (by omega)
 omega
theorem div_less {B c R' S : Nat} (hle : B ≤ R') (hs : R' + c * B = S) : (R' - B) + (c + 1) * B = S := by
 rw [Nat.add_mul, Nat.one_mul]; omega
theorem div_end {l A : List Nat} {B R : Nat} (h : B * val l + R = val A) (hR : R < B) : val l = val A / B ∧ R = val A % B := by
 rw [← h]
 constructor
 · rw [Nat.mul_add_div (by omega), Nat.div_eq_of_lt hR, Nat.add_zero]
 · rw [Nat.mul_add_mod, Nat.mod_eq_of_lt hR]
theorem set_zero {l : List Nat} {i k : Nat} (hz : l.take k = List.replicate k 0) (hi : i < k) (hk : k ≤ l.length) : l.set i 0 = l := by
 have h1 : l[i]'(by omega) = 0 := by
   have h2 : (l.take k)[i]? = some 0 := by rw [hz]; simp [hi]
   rw [List.getElem?_take_of_lt hi, List.getElem?_eq_getElem (by omega)] at h2
   exact Option.some.inj h2
 apply List.ext_getElem (by simp)
 intro j h3 h4
 rw [List.getElem_set]
 split
 · rename_i e; subst e; exact h1.symm
 · rfl
theorem take_zero {l : List Nat} {i k c : Nat} (hz : l.take k = List.replicate k 0) (hi : i < k) (_hk : k ≤ l.length) : (l.set i c).take i = List.replicate i 0 := by
 rw [List.take_set_of_le (Nat.le_refl i)]
 have : l.take i = (l.take k).take i := by rw [List.take_take, Nat.min_eq_left (by omega)]
 rw [this, hz]
 simp [List.take_replicate, Nat.min_eq_left (by omega : i ≤ k)]
end Go.Proofs.YtpdoddhieblooaaGreatDoor
namespace Go.Proofs.YtpdoddhieblooaaGreatDoor
open Go.RowKit

theorem wpList_append_digs {w : World} {ops : Array Oper} {rest : List Oper} {o : Oper} {a : Act} {Q : Exit → Act → World → Prop} (hgd : o.guard = none) (s x : Operand)
   (ho : o.op = .call { callee := .builtin .append, args := #[s, x], argTypes := #[50, 50] }) (base : Nat)
   (v : Value) (n : Nat) (xs : List Value) (hs : a.eval s = v) (hown : w.ownsRow base 3 1 v n xs) (vr : Value) (C R : Nat) (hx : a.eval x = vr) (hd : DArg C w vr R)
   (hn : n ≤ 1000) (hR : (digs R).length ≤ 100000) (hbase : base ≤ w.heap.size)
   (h : ∀ v' w', w'.ownsRow base 3 1 v' (n + (digs R).length) (xs ++ dcells (digs R)) → w.grownBy w' v.ownBlock → wpList Tryz.prog ops Q rest (a.put o.dst v') w') : wpList Tryz.prog ops Q (o :: rest) a w := by
 obtain ⟨i0, hi, hz0, hz1, hz2⟩ := info_parts Tryz.infoInt
 rcases hd with ⟨rfl, rfl⟩ | ⟨b, cap, rfl, h1, h2, h3, h4⟩
 · refine wpList_append_own_none hgd s x 50 ho base 3 i0 1 Tryz.underlying50 hi v n xs hs hown hx ?_
   refine h v w ?_ ?_
   · rw [digs_zero]
     simpa [dcells] using hown
   · exact World.grownBy.refl _ _
 · refine wpList_append_own _ hgd s x 50 ho base 3 i0 (.int .i64 0) 1 8 Tryz.underlying50 hi hz0 hz1 hz2 rfl (by decide) v n xs hs hown ⟨b, 0, none⟩ (digs R).length cap (dcells (digs R)) hx (by simp [dcells]) ?_ ?_ (by unfold maxLen; omega) (by omega) hbase fun v' w' h5 h6 _ => h v' w' h5 h6
   · intro j u hj
     rw [add_head]
     by_cases hjl : j < (digs R).length
     · rw [h4 j hjl]
       simpa [dcells, List.getElem?_eq_getElem hjl] using hj
     · simp [dcells, hjl] at hj
   · intro u hu
     simp [dcells] at hu
     obtain ⟨d, _, rfl⟩ := hu
     rfl
theorem own_keep {B C : Nat} {w w' : World} {v : Value} {n : Nat} {xs : List Value} (h : w.ownsRow B 3 1 v n xs) (hb : Below C w w') (hC : w.heap.size ≤ C) : w'.ownsRow B 3 1 v n xs := by
 refine ⟨h.1, ?_⟩
 rcases h.2 with hn | ⟨g, cap, cur, e, hB, hg, rest⟩
 · exact .inl hn
 · have hgl : g < w.heap.size := (Array.getElem?_eq_some_iff.1 hg).1
   exact .inr ⟨g, cap, cur, e, hB, (hb.block g (by omega)).trans hg, rest⟩
theorem own_lt {B g n cap : Nat} {w : World} {xs : List Value} (h : w.ownsRow B 3 1 (.slice (some ⟨g, 0, none⟩) n cap) n xs) : g < w.heap.size := by
 rcases h.2 with ⟨h0, _⟩ | ⟨g', cap', cur, e, hB, hg, rest⟩
 · cases h0
 · cases e
   exact (Array.getElem?_eq_some_iff.1 hg).1
theorem digs_snoc {d R : Nat} (hd : d < 10) : Digs (d :: digs R) ∧ val (d :: digs R) = d + 10 * R := ⟨Digs.cons hd (digs_digs R), by rw [val_cons, val_digs]⟩
theorem ord_ge {a b : Nat} (h : b ≤ a) : 0 ≤ ord a b := by unfold ord; split <;> (try split) <;> omega
theorem ord_not {a b : Nat} (h : a < b) : ¬ 0 ≤ ord a b := by rw [ord_lt h]; decide
def Gives2 (w : World) (m n : Nat) (e : Ending) (w' : World) : Prop := ∃ v u, e = .returned (.tuple #[v, u]) ∧ DArg w.heap.size w' v m ∧ DArg w.heap.size w' u n ∧ Below w.heap.size w w'
set_option maxHeartbeats 4000000 in
set_option maxRecDepth 100000 in
theorem div_d {B0 C0 a b : Nat} {va vb : Value} {w : World} (hA : DArg B0 w va a) (hB : DArg C0 w vb b) (hb : 0 < b) (la : (digs a).length ≤ 10000) (lb : (digs b).length ≤ 10000) :
   Calls Tryz.prog 67 #[va, vb] w (Gives2 w (a / b) (a % b)) := by
 have HB := Lib.hid hB
 obtain ⟨pa, ba, ca, rfl, a1, a2, a3, a4⟩ := hA.parts
 clear hA hB
 have hdA := digs_digs a
 have hvA := val_digs a
 generalize digs a = A at *
 have hmk := run_make_row' 50 3 (.int .i64 0) 8 Tryz.underlying50 Tryz.infoInt rfl .i64 .i64 A.length (by omega) (by omega)
 have hown0 : (w.alloc (.cells (madeCells #[Value.int .i64 0] A.length) 3)).ownsRow w.heap.size 3 1 (.slice (some ⟨w.heap.size, 0, none⟩) A.length A.length) A.length (dcells (List.replicate A.length 0)) := by
   rw [← made_zeros]
   exact World.ownsRow_lit w _ _ (Nat.le_refl _) (by unfold maxLen; omega) (by simp [madeCells])
 have HO0 := Lib.hid hown0
 have HV := Lib.hid hvA
 clear hown0 hvA
 go_enter Tryz.func67, Tryz.ntmps67
 go_wp2
 go_loopw [7, 8] (fun v i wr => ∃ (k R : Nat) (l : List Nat), i = .int .i64 ((k : Int) - 1) ∧ k ≤ A.length ∧ l.length = A.length ∧ Digs l ∧ l.take k = List.replicate k 0 ∧ b * val (l.drop k) + R = val (A.drop k) ∧ R < b ∧
     DArg (w.heap.size + 1) wr v R ∧ wr.ownsRow w.heap.size 3 1 (.slice (some ⟨w.heap.size, 0, none⟩) A.length A.length) A.length (dcells l) ∧ Below w.heap.size w wr)
   (fun _ i _ => (intOf i + 1).toNat)
 case atStart =>
   refine ⟨A.length, 0, List.replicate A.length 0, rfl, Nat.le_refl _, by simp, fun d hd => by rw [List.eq_of_mem_replicate hd]; decide, by simp, by simp [val], hb, .inl ⟨rfl, rfl⟩, HO0.out, (Below.refl _ w).alloc (Nat.le_refl _) _⟩
 case round =>
   obtain ⟨k, R, l, rfl, hk, hl, hd, htk, hs, hR, hD, hown, hnx⟩ := hrel
   have hsz := hnx.size
   have HO := Lib.hid hown
   have HS := Lib.hid hs
   have HT := Lib.hid htk
   have HL := Lib.hid hl
   have HD := Lib.hid hD
   have HDl := Lib.hid hd
   clear hown hs htk hl hD hd hmk HO0
   by_cases h0 : k = 0
   · subst h0
     have hs0 := HS.out
     rw [List.drop_zero, List.drop_zero] at hs0
     obtain ⟨eq1, eq2⟩ := div_end hs0 hR
     rw [HV.out] at eq1 eq2
     have hl := HL.out
     obtain ⟨p, bo, cap', he, t1, t2, t3, t4, t5, t6⟩ := own_trim (l := l) (by rw [hl]; exact HO.out) HDl.out
     rw [hl] at he
     obtain ⟨rfl, rfl⟩ : some (⟨w.heap.size, 0, none⟩ : Addr) = p ∧ A.length = cap' := by simpa using he
     have tr := trim_any _ bo A.length l wr HDl.out t1 t2 t3 t4 t5 (by omega)
     rw [hl, eq1] at tr
     rw [eq1] at t6
     have TR := Lib.hid tr
     have T6 := Lib.hid t6
     have E2 := Lib.hid eq2
     clear tr t1 t2 t3 t4 t5 t6 hl he eq1 eq2 hs0
     go_wp2_with (go_at_call 107; refine TR.out.mono ?_; rintro e w2 ⟨rfl, rfl⟩)
     go_ret2
     refine ⟨_, _, rfl, DArg.of_own T6.out, ?_, hnx⟩
     rw [← E2.out]
     exact HD.out.base (by omega)
   · have hpp := a1 (by omega)
     subst hpp
     have hba := a4 (by omega)
     have hkA : k - 1 < A.length := by omega
     have hcA := (hnx.cell (by exact hba)).trans (a3 (k - 1) hkA)
     have h9 := hdA.at (k - 1) hkA
     have hcast : ((k : Int) - 1) = ((k - 1 : Nat) : Int) := by omega
     have hRl := Nat.le_trans (digs_len_mono (Nat.le_of_lt hR)) lb
     have hlt := own_lt HO.out
     clear a1 a3 a4
     go_wp2_with (at_builtin; refine wpList_append_digs rfl _ _ rfl (w.heap.size + 1) _ 1 [.int .i64 (A[k - 1]'hkA : Int)] rfl ?c1 _ (w.heap.size + 1) R rfl ?c2 ?c3 ?c4 ?c5 ?_)
     case c1 => exact ⟨rfl, .inr ⟨wr.heap.size, 1, #[.int .i64 (A[k - 1]'hkA : Int)], rfl, by omega, heap_alloc_new wr _, by decide, by decide, rfl, rfl⟩⟩
     case c2 => exact HD.out.keep (C := wr.heap.size) ((Below.refl _ wr).alloc (Nat.le_refl _) _) (Nat.le_refl _)
     case c3 => decide
     case c4 => omega
     case c5 => simp; omega
     intro v' w1 hown1 hgrow
     have hb1 : Below wr.heap.size wr w1 := ((Below.refl _ wr).alloc (Nat.le_refl _) _).grown hgrow (by simp) (fun j hj => by simp [Value.ownBlock] at hj; omega)
     obtain ⟨hd2, hv2⟩ := digs_snoc (R := R) h9
     have hown2 : w1.ownsRow (w.heap.size + 1) 3 1 v' (A[k - 1] :: digs R).length (dcells (A[k - 1] :: digs R)) := by
       rw [List.length_cons, Nat.add_comm (digs R).length 1]
       exact hown1
     obtain ⟨p, bo, cap', he, t1, t2, t3, t4, t5, t6⟩ := own_trim hown2 hd2
     subst he
     have tr := trim_any _ bo cap' _ w1 hd2 t1 t2 t3 t4 t5 (by simp; omega)
     rw [hv2] at tr t6
     have TR := Lib.hid tr
     have T6 := Lib.hid (DArg.of_own t6)
     have HO1 := Lib.hid (own_keep HO.out hb1 (Nat.le_refl _))
     have hnx1 := hnx.trans (hb1.mono hsz)
     have HZ := Lib.hid (set_zero HT.out (show k - 1 < k by omega) (by rw [HL.out]; exact hk))
     clear tr t1 t2 t3 t4 t5 t6 hown1 hown2 hgrow hv2 hd2 HO HD hcA
     go_wp2_with (go_at_call 107; refine TR.out.mono ?_; rintro e w2 ⟨rfl, rfl⟩)
     go_loopg [7] (A[k - 1]'hkA + 10 * R) (fun gk v wr2 => ∃ c, gk + c * b = A[k - 1]'hkA + 10 * R ∧ DArg (w.heap.size + 1) wr2 v gk ∧ wr2.ownsRow w.heap.size 3 1 (.slice (some ⟨w.heap.size, 0, none⟩) A.length A.length) A.length (dcells (l.set (k - 1) c)) ∧ Below w.heap.size w wr2)
     case atStart => exact ⟨0, by simp, T6.out, by rw [HZ.out]; exact HO1.out, hnx1⟩
     case round =>
       obtain ⟨c, hc, hD3, hO3, hnx3⟩ := hrel
       have hc9 := div_digit hR h9 hc
       have hsz3 := hnx3.size
       have hgl := Nat.le_trans (digs_len_mono (show gk ≤ A[k - 1]'hkA + 10 * R by omega)) (digs_len_add _ _)
       have hBw := (HB.out.keep hnx3 (Nat.le_refl _))
       have hgl2 : (digs gk).length ≤ 100000 := by
         have := digs_len_mul 10 R
         have := digs_length 10 2 (by decide)
         have := digs_length (A[k - 1]'hkA) 1 (by omega)
         omega
       have hlt3 := own_lt hO3
       have HO3 := Lib.hid hO3
       have HC := Lib.hid hc
       clear hO3 hc hgl
       by_cases hge : b ≤ gk
       · have hng : 0 ≤ ord gk b := ord_ge hge
         have cm := Lib.hid (cmp_d hD3 hBw hgl2 (by omega))
         have D3 := Lib.hid hD3
         have DB := Lib.hid hBw
         clear hD3 hBw
         have hcell : wr.cell? ⟨w.heap.size, k - 1, none⟩ = some (.int .i64 (c : Int)) := by
           rw [HO3.out.cellAt (k - 1) (by omega)]
           simp [dcells, HL.out, hkA]
         have hfr : wr.frozen? ⟨w.heap.size, k - 1, none⟩ = false := HO3.out.frozenAt (k - 1)
         go_wp2_with (first | (go_at_call 70; refine cm.out.mono ?_; rintro e w2 ⟨rfl, hb2⟩; have B2 := Lib.hid hb2; have K2 := Lib.hid (D3.out.keep hb2 (Nat.le_refl _)); have E2 := Lib.hid (DB.out.keep hb2 (Nat.le_refl _)); clear hb2; have ls := Lib.hid (less_d K2.out E2.out hge (by omega) hgl2)) | (go_at_call 72; refine ls.out.mono ?_; rintro e w3 ⟨v3, rfl, D4, hb3⟩; have D4 := Lib.hid D4; have b23 := Lib.hid (B2.out.trans (hb3.mono B2.out.size)); clear hb3; have hz23 := b23.out.size; have hcell2 := (b23.out.cell (p := ⟨w.heap.size, k - 1, none⟩) hlt3).trans hcell; have hfr2 := (b23.out.frozen (p := ⟨w.heap.size, k - 1, none⟩) hlt3).trans hfr))
         go_roundg (gk - b)
         case measure => omega
         case rel =>
           refine ⟨c + 1, div_less hge HC.out, ?_, ?_, ?_⟩
           · exact (D4.out.base (by have := B2.out.size; omega)).setCell _ (by simp)
           · have e : (l.set (k - 1) (c + 1)) = (l.set (k - 1) c).set (k - 1) (c + 1) := by rw [List.set_set]
             rw [e, dcells_set]
             have e2 : (((c + 1 : Nat)) : Int) = (c : Int) + 1 := by omega
             rw [e2]
             exact ((own_keep HO3.out b23.out (Nat.le_refl _)).stored (k - 1) _).1
           · exact (hnx3.trans (b23.out.mono hsz3)).setCell (p := ⟨w.heap.size, k - 1, none⟩) (Nat.le_refl _) _
       · have hng : ¬ 0 ≤ ord gk b := ord_not (by omega)
         have cm := Lib.hid (cmp_d hD3 hBw hgl2 (by omega))
         have D3 := Lib.hid hD3
         clear hD3 hBw
         go_wp2_with (go_at_call 70; refine cm.out.mono ?_; rintro e w2 ⟨rfl, hb2⟩)
         case roundEnd =>
           refine ⟨⟨k - 1, gk, l.set (k - 1) c, rfl, by omega, by simpa using HL.out, HDl.out.set _ hc9, take_zero HT.out (by omega) (by rw [HL.out]; exact hk), div_step hkA HL.out ?_ HC.out, by omega, D3.out.keep hb2 (Nat.le_refl _), own_keep HO3.out hb2 (Nat.le_refl _), hnx3.trans (hb2.mono hsz3)⟩, ?_⟩
           · rw [show k - 1 + 1 = k by omega]; exact HS.out
           · simp [intOf]; omega
end Go.Proofs.YtpdoddhieblooaaGreatDoor
