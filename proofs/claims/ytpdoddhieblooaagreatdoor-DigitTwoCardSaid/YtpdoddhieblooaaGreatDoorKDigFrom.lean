/- Numbers as lists of decimal digits, the least one first: what a list spells, and how its parts, a changed place and a list without zeros at its end spell it: no program in this text. ironbarkref01.From: the digits of a number from 0 on, in memory of the call's own. ironbarkref01.Trim: a list of digits without zeros at its end is its number's digits. A slice of the call's own that holds digits, and what Trim makes of it. -/
import Derived.Below
import Derived.Test.YtpdoddhieblooaaGreatDoorProg
import Derived.WalkKit
namespace Go.Proofs.YtpdoddhieblooaaGreatDoor

def val : List Nat → Nat
 | [] => 0
 | d :: r => d + 10 * val r
theorem val_nil : val [] = 0 := rfl
theorem val_cons (d : Nat) (r : List Nat) : val (d :: r) = d + 10 * val r := rfl
theorem val_append : ∀ (a b : List Nat), val (a ++ b) = val a + 10 ^ a.length * val b
 | [], b => by simp [val]
 | d :: a, b => by
   rw [List.cons_append, val_cons, val_cons, val_append a b, List.length_cons, Nat.pow_succ, Nat.mul_add, Nat.mul_comm (10 ^ a.length) 10, Nat.mul_assoc, Nat.add_assoc]
theorem val_push (a : List Nat) (d : Nat) : val (a ++ [d]) = val a + 10 ^ a.length * d := by
 rw [val_append, val_cons, val_nil, Nat.mul_zero, Nat.add_zero]
theorem val_split (l : List Nat) (n : Nat) (hn : n ≤ l.length) : val l = val (l.take n) + 10 ^ n * val (l.drop n) := by
 conv => lhs; rw [← List.take_append_drop n l, val_append, List.length_take_of_le hn]
theorem val_drop (l : List Nat) (i : Nat) : val (l.drop i) = (l[i]?).getD 0 + 10 * val (l.drop (i + 1)) := by
 by_cases h : i < l.length
 · rw [List.drop_eq_getElem_cons h, val_cons, List.getElem?_eq_getElem h]; rfl
 · rw [List.drop_of_length_le (by omega), List.drop_of_length_le (by omega), List.getElem?_eq_none (by omega)]; rfl
theorem val_drop_end (l : List Nat) (i : Nat) (h : l.length ≤ i) : val (l.drop i) = 0 := by
 rw [List.drop_of_length_le h]; rfl
theorem val_take_succ (l : List Nat) (i : Nat) (h : i < l.length) : val (l.take (i + 1)) = val (l.take i) + 10 ^ i * l[i] := by
 rw [List.take_succ_eq_append_getElem h, val_push, List.length_take_of_le (Nat.le_of_lt h)]
theorem val_set : ∀ (l : List Nat) (j : Nat) (h : j < l.length) (x : Nat), val (l.set j (l[j] + x)) = val l + 10 ^ j * x
 | [], j, h, x => by simp at h
 | d :: r, 0, h, x => by simp [val]; omega
 | d :: r, j + 1, h, x => by
   have hj : j < r.length := by simpa using h
   rw [List.set_cons_succ, val_cons, val_cons, List.getElem_cons_succ, val_set r j hj x, Nat.pow_succ, Nat.mul_add, Nat.mul_comm (10 ^ j) 10, Nat.mul_assoc, Nat.add_assoc]
def Digs (l : List Nat) : Prop := ∀ d ∈ l, d < 10
theorem Digs.nil : Digs [] := fun _ h => by cases h
theorem Digs.cons {d : Nat} {r : List Nat} (hd : d < 10) (hr : Digs r) : Digs (d :: r) := by
 intro x hx
 rcases List.mem_cons.1 hx with rfl | hx
 · exact hd
 · exact hr x hx
theorem Digs.tail {d : Nat} {r : List Nat} (h : Digs (d :: r)) : Digs r := fun x hx => h x (List.mem_cons_of_mem _ hx)
theorem Digs.head {d : Nat} {r : List Nat} (h : Digs (d :: r)) : d < 10 := h d (List.mem_cons_self ..)
theorem Digs.push {l : List Nat} {d : Nat} (hl : Digs l) (hd : d < 10) : Digs (l ++ [d]) := by
 intro x hx
 rcases List.mem_append.1 hx with hx | hx
 · exact hl x hx
 · rw [List.mem_singleton.1 hx]; exact hd
theorem Digs.take {l : List Nat} (hl : Digs l) (n : Nat) : Digs (l.take n) := fun x hx => hl x (List.mem_of_mem_take hx)
theorem Digs.drop {l : List Nat} (hl : Digs l) (n : Nat) : Digs (l.drop n) := fun x hx => hl x (List.mem_of_mem_drop hx)
theorem Digs.set {l : List Nat} (hl : Digs l) (n : Nat) {d : Nat} (hd : d < 10) : Digs (l.set n d) := by
 intro x hx
 rcases List.mem_or_eq_of_mem_set hx with hx | rfl
 · exact hl x hx
 · exact hd
theorem Digs.at {l : List Nat} (hl : Digs l) (i : Nat) (h : i < l.length) : l[i] < 10 := hl _ (List.getElem_mem h)
theorem Digs.at? {l : List Nat} (hl : Digs l) (i : Nat) : (l[i]?).getD 0 < 10 := by
 by_cases h : i < l.length
 · rw [List.getElem?_eq_getElem h]; exact hl.at i h
 · rw [List.getElem?_eq_none (by omega)]; decide
theorem val_lt : ∀ (l : List Nat), Digs l → val l < 10 ^ l.length
 | [], _ => by simp [val]
 | d :: r, h => by
   have := val_lt r h.tail
   have := h.head
   rw [val_cons, List.length_cons, Nat.pow_succ]
   omega
theorem val_zeros : ∀ (l : List Nat), (∀ d ∈ l, d = 0) → val l = 0
 | [], _ => rfl
 | d :: r, h => by
   rw [val_cons, h d (List.mem_cons_self ..), val_zeros r fun x hx => h x (List.mem_cons_of_mem _ hx)]
def Neat (l : List Nat) : Prop := l.getLast? ≠ some 0
theorem Neat.nil : Neat [] := by simp [Neat]
theorem Neat.last {l : List Nat} (h : Neat l) (hl : 0 < l.length) : l[l.length - 1] ≠ 0 := by
 intro e
 apply h
 rw [List.getLast?_eq_getElem?, List.getElem?_eq_getElem (by omega), e]
theorem neat_of_last {l : List Nat} (h : ∀ hl : 0 < l.length, l[l.length - 1] ≠ 0) : Neat l := by
 intro e
 rw [List.getLast?_eq_getElem?] at e
 obtain ⟨hi, he⟩ := List.getElem?_eq_some_iff.1 e
 exact h (by omega) he
theorem val_ge (l : List Nat) (h : Neat l) (hl : 0 < l.length) : 10 ^ (l.length - 1) ≤ val l := by
 have hd := h.last hl
 have e := val_take_succ l (l.length - 1) (by omega)
 rw [show l.length - 1 + 1 = l.length by omega, List.take_length] at e
 rw [e]
 have : 10 ^ (l.length - 1) * 1 ≤ 10 ^ (l.length - 1) * l[l.length - 1] := Nat.mul_le_mul_left _ (by omega)
 omega
theorem val_lt_of_length {a b : List Nat} (ha : Digs a) (hb : Neat b) (h : a.length < b.length) : val a < val b :=
 Nat.lt_of_lt_of_le (val_lt a ha) (Nat.le_trans (Nat.pow_le_pow_right (by decide) (by omega)) (val_ge b hb (by omega)))
theorem length_le_of_val {a b : List Nat} (hb : Digs b) (ha : Neat a) (h : val a ≤ val b) : a.length ≤ b.length := by
 by_cases hl : a.length ≤ b.length
 · exact hl
 · exact absurd (val_lt_of_length hb ha (by omega)) (by omega)
theorem val_lt_of_place {a b : List Nat} (i : Nat) (ha : Digs a) (hia : i < a.length) (hib : i < b.length) (htop : a.drop (i + 1) = b.drop (i + 1)) (h : a[i] < b[i]) : val a < val b := by
 have ea := val_split a (i + 1) (by omega)
 have eb := val_split b (i + 1) (by omega)
 rw [val_take_succ a i hia] at ea
 rw [val_take_succ b i hib] at eb
 rw [htop] at ea
 have hlow := val_lt (a.take i) (ha.take i)
 rw [List.length_take_of_le (by omega)] at hlow
 have : 10 ^ i * (a[i] + 1) ≤ 10 ^ i * b[i] := Nat.mul_le_mul_left _ (by omega)
 rw [Nat.mul_add, Nat.mul_one] at this
 omega
theorem val_inj : ∀ {a b : List Nat}, Digs a → Digs b → Neat a → Neat b → val a = val b → a = b := by
 have key : ∀ (a b : List Nat), a.length = b.length → Digs a → Digs b → val a = val b → a = b := by
   intro a
   induction a with
   | nil => intro b hl _ _ _; exact (List.length_eq_zero_iff.1 hl.symm).symm
   | cons d r ih =>
     intro b hl ha hb hv
     cases b with
     | nil => simp at hl
     | cons d' r' =>
       have := ha.head
       have := hb.head
       rw [val_cons, val_cons] at hv
       have hd : d = d' := by omega
       subst hd
       rw [ih r' (by simpa using hl) ha.tail hb.tail (by omega)]
 intro a b ha hb na nb hv
 exact key a b (Nat.le_antisymm (length_le_of_val hb na (Nat.le_of_eq hv)) (length_le_of_val ha nb (Nat.le_of_eq hv.symm))) ha hb hv
def digs (n : Nat) : List Nat := if h : n = 0 then [] else n % 10 :: digs (n / 10)
termination_by n
decreasing_by omega
theorem digs_zero : digs 0 = [] := by rw [digs]; rfl
theorem digs_pos (n : Nat) (h : 0 < n) : digs n = n % 10 :: digs (n / 10) := by rw [digs, dif_neg (by omega)]
theorem val_digs (n : Nat) : val (digs n) = n := by
 induction n using Nat.strongRecOn with
 | ind n ih =>
   by_cases h : n = 0
   · subst h; rw [digs_zero]; rfl
   · rw [digs_pos n (by omega), val_cons, ih (n / 10) (by omega)]; omega
theorem digs_digs (n : Nat) : Digs (digs n) := by
 induction n using Nat.strongRecOn with
 | ind n ih =>
   by_cases h : n = 0
   · subst h; rw [digs_zero]; exact Digs.nil
   · rw [digs_pos n (by omega)]; exact Digs.cons (by omega) (ih (n / 10) (by omega))
theorem digs_neat (n : Nat) : Neat (digs n) := by
 induction n using Nat.strongRecOn with
 | ind n ih =>
   by_cases h : n = 0
   · subst h; rw [digs_zero]; exact Neat.nil
   · rw [digs_pos n (by omega)]
     by_cases h' : n / 10 = 0
     · rw [h', digs_zero]
       show [n % 10].getLast? ≠ some 0
       rw [List.getLast?_singleton]
       intro e
       have : n % 10 = 0 := Option.some.inj e
       omega
     · have hi := ih (n / 10) (by omega)
       unfold Neat at hi ⊢
       rw [digs_pos (n / 10) (by omega)] at hi ⊢
       rw [List.getLast?_cons_cons]; exact hi
theorem digs_val {l : List Nat} (h : Digs l) (hn : Neat l) : digs (val l) = l :=
 val_inj (digs_digs _) h (digs_neat _) hn (val_digs _)
theorem digs_length (n k : Nat) (h : n < 10 ^ k) : (digs n).length ≤ k := by
 by_cases hl : (digs n).length ≤ k
 · exact hl
 · have := val_ge (digs n) (digs_neat n) (by omega)
   rw [val_digs] at this
   have : 10 ^ k ≤ 10 ^ ((digs n).length - 1) := Nat.pow_le_pow_right (by decide) (by omega)
   omega
end Go.Proofs.YtpdoddhieblooaaGreatDoor
namespace Go.Proofs.YtpdoddhieblooaaGreatDoor
open Go.RowKit

theorem Tryz.infoInt : (Tryz.prog.info? 3).map (fun i => (i.zero, i.size, i.bytes)) = some (some (.int .i64 0), 1, 8) := by kernel_rfl
abbrev dcells (l : List Nat) : List Value := l.map fun d : Nat => Value.int .i64 (d : Int)
theorem from_keep {B m : Nat} {l : List Nat} {w wr w1 : World} {v v' : Value} {o : Obj} (hB : B ≤ wr.heap.size)
   (hown : wr.ownsRow B 3 1 v l.length (dcells l)) (hnx : Below B w wr) (d : Int) (hd : d = ((m % 10 : Nat) : Int))
   (hown' : w1.ownsRow B 3 1 v' (l.length + 1) (dcells l ++ [.int .i64 d])) (hgrow : (wr.alloc o).grownBy w1 v.ownBlock) :
   w1.ownsRow B 3 1 v' (l ++ [m % 10]).length (dcells (l ++ [m % 10])) ∧ Below B w w1 := by
 subst hd
 refine ⟨by simpa [dcells] using hown', (hnx.alloc (by omega) o).grown hgrow (by simp; omega) (fun j hj => (hown.lt j hj).1)⟩
set_option maxHeartbeats 1600000 in
set_option maxRecDepth 100000 in
theorem from_any (n : Nat) (w : World) (hn : n < 9223372036854775808) :
   Calls Tryz.prog 106 #[.int .i64 (n : Int)] w fun e w' => ∃ v, e = .returned v ∧ w'.ownsRow w.heap.size 3 1 v (digs n).length (dcells (digs n)) ∧ Below w.heap.size w w' := by
 obtain ⟨i0, hi, hz0, hz1, hz2⟩ := info_parts Tryz.infoInt
 have hlen := digs_length n 19 (by omega)
 go_enter Tryz.func106, Tryz.ntmps106
 go_wp2
 go_loopw [0, 3] (fun i v wr => ∃ (m : Nat) (l : List Nat), i = .int .i64 (m : Int) ∧ m ≤ n ∧ l ++ digs m = digs n ∧ wr.ownsRow w.heap.size 3 1 v l.length (dcells l) ∧ Below w.heap.size w wr)
   (fun i _ _ => (intOf i).toNat)
 case atStart => exact ⟨n, [], rfl, Nat.le_refl _, rfl, World.ownsRow_nil _ _ _ _, Below.refl _ _⟩
 case round =>
   obtain ⟨m, l, rfl, hm, hl, hown, hnx⟩ := hrel
   have hll : l.length ≤ 19 := by have := congrArg List.length hl; rw [List.length_append] at this; omega
   have hsz := hnx.size
   have hmod : ((m : Int).tmod 10) = ((m % 10 : Nat) : Int) := by rw [Int.tmod_eq_emod_of_nonneg (by omega)]; omega
   have hdiv : ((m : Int).tdiv 10) = ((m / 10 : Nat) : Int) := by rw [Int.tdiv_eq_ediv_of_nonneg (by omega)]; omega
   go_wp2_with (at_builtin; refine wpList_append_own _ rfl _ _ 50 rfl w.heap.size 3 i0 (.int .i64 0) 1 8 Tryz.underlying50 hi hz0 hz1 hz2 rfl (by decide) _ _ _ rfl (hown.alloc _) ⟨wr.heap.size, 0, none⟩ 1 1 [.int .i64 ((m : Int).tmod 10)] rfl rfl ?c1 ?c2 ?c3 ?c4 ?c5 ?_)
   case c1 =>
     intro j u hj
     match j, hj with
     | 0, hj => simp at hj; subst hj; simp [Addr.add]; exact (Int.tmod_eq_emod_of_nonneg (by omega)).symm
   case c2 => intro u hu; simp at hu; subst hu; rfl
   case c3 => unfold maxLen; omega
   case c4 => omega
   case c5 => simp; omega
   · intro v' w1 hown' hgrow _
     have hpos : 0 < m := by omega
     have R := from_keep (m := m) hsz hown hnx _ hmod hown' hgrow
     clear hown' hgrow hown
     go_wp2
     go_roundw
     case rel => exact ⟨m / 10, l ++ [m % 10], by rw [show ((m / 10 : Nat) : Int) = (m : Int) / 10 by omega], by omega, by rw [List.append_assoc, List.singleton_append, ← digs_pos m hpos]; exact hl, R.1, R.2⟩
     case measure => simp [intOf]; omega
   · have h0 : m = 0 := by omega
     subst h0
     rw [digs_zero, List.append_nil] at hl
     subst hl
     go_ret
     exact ⟨_, rfl, hown, hnx⟩
end Go.Proofs.YtpdoddhieblooaaGreatDoor
namespace Go.Proofs.YtpdoddhieblooaaGreatDoor
open Go.RowKit

theorem take_of_val {l : List Nat} {k : Nat} (hd : Digs l) (hk : k ≤ l.length) (hv : val (l.take k) = val l) (h : ∀ h0 : 0 < k, l[k - 1] ≠ 0) : digs (val l) = l.take k := by
 rw [← hv]
 refine digs_val (hd.take k) (neat_of_last ?_)
 intro h0
 rw [List.length_take_of_le hk] at h0
 have := h h0
 simpa [List.length_take_of_le hk] using this
theorem trim_step {l : List Nat} {k : Nat} (hk : k ≤ l.length) (h0 : 0 < k) (hz : l[k - 1] = 0) (hv : val (l.take k) = val l) : val (l.take (k - 1)) = val l := by
 have := val_take_succ l (k - 1) (by omega)
 rw [show k - 1 + 1 = k by omega, hz, Nat.mul_zero, Nat.add_zero] at this
 rw [← this]; exact hv
set_option maxHeartbeats 1600000 in
set_option maxRecDepth 100000 in
theorem trim_any (p : Option Addr) (b cap : Nat) (l : List Nat) (w : World) (hd : Digs l) (hp : 0 < l.length → p = some ⟨b, 0, none⟩) (hp0 : p = none ∨ p = some ⟨b, 0, none⟩) (hcap : l.length ≤ cap) (hnil : p = none → cap = 0)
   (hc : ∀ j (h : j < l.length), w.cell? ⟨b, j, none⟩ = some (.int .i64 (l[j] : Int))) (hlen : l.length ≤ 1000000) :
   Calls Tryz.prog 107 #[.slice p l.length cap] w fun e w' => e = .returned (.slice p (digs (val l)).length cap) ∧ w = w' := by
 go_enter Tryz.func107, Tryz.ntmps107
 go_wp2
 go_loopw [3] (fun i wr => ∃ k : Nat, i = .int .i64 (k : Int) ∧ k ≤ l.length ∧ val (l.take k) = val l ∧ w = wr)
   (fun i _ => (intOf i).toNat)
 case atStart => exact ⟨l.length, rfl, Nat.le_refl _, by rw [List.take_length], rfl⟩
 case round =>
   obtain ⟨k, rfl, hk, hv, rfl⟩ := hrel
   by_cases h0 : k = 0
   · subst h0
     have hdl := take_of_val hd hk hv (fun h => absurd h (by decide))
     have hlz : (digs (val l)).length = 0 := by rw [hdl]; rfl
     clear hp hc
     rcases hp0 with rfl | rfl
     · have := hnil rfl
       subst this
       go_wp2
       go_ret
       first
         | exact ⟨by rw [hlz]; rfl, rfl⟩
         | exact ⟨rfl, rfl⟩
         | (rw [hlz]; rfl)
     · go_wp2
       go_ret
       first
         | exact ⟨by rw [hlz]; rfl, rfl⟩
         | exact ⟨rfl, rfl⟩
         | (rw [hlz]; rfl)
   · have hpp := hp (by omega)
     subst hpp
     have hcc := hc (k - 1) (by omega)
     have hcast : ((k : Int) - 1) = ((k - 1 : Nat) : Int) := by omega
     go_wp2
     case roundEnd =>
       have hz : l[k - 1]'(by omega) = 0 := by rename_i hB; simpa using hB
       exact ⟨⟨k - 1, rfl, by omega, trim_step hk (by omega) hz hv, trivial⟩, by simp [intOf]; omega⟩
     · have hz : ¬ l[k - 1]'(by omega) = 0 := by rename_i hB; simpa using hB
       have hdl := take_of_val hd hk hv (fun _ => hz)
       have hlz : (digs (val l)).length = k := by rw [hdl]; exact List.length_take_of_le hk
       go_ret
       first
         | exact ⟨by rw [hlz]; rfl, rfl⟩
         | exact ⟨rfl, rfl⟩
         | (rw [hlz]; rfl)
end Go.Proofs.YtpdoddhieblooaaGreatDoor
namespace Go.Proofs.YtpdoddhieblooaaGreatDoor
open Go.RowKit

theorem trimmed_take {l : List Nat} (hd : Digs l) : ∀ m, m ≤ l.length → val (l.take m) = val l → ∃ k, k ≤ l.length ∧ digs (val l) = l.take k
 | 0, hm, hv => ⟨0, Nat.zero_le _, take_of_val hd hm hv fun h => absurd h (by decide)⟩
 | m + 1, hm, hv => by
   by_cases hz : l[m]'(by omega) = 0
   · exact trimmed_take hd m (by omega) (by simpa using trim_step hm (by omega) (by simpa using hz) hv)
   · exact ⟨m + 1, hm, take_of_val hd hm hv fun _ => by simpa using hz⟩
theorem digs_take {l : List Nat} (hd : Digs l) : (digs (val l)).length ≤ l.length ∧ digs (val l) = l.take (digs (val l)).length := by
 obtain ⟨k, hk, e⟩ := trimmed_take hd l.length (Nat.le_refl _) (by rw [List.take_length])
 have el : (digs (val l)).length = k := by rw [e]; exact List.length_take_of_le hk
 exact ⟨by omega, by rw [el]; exact e⟩
theorem add_head (g j : Nat) : (⟨g, 0, none⟩ : Addr).add j = ⟨g, j, none⟩ := by unfold Addr.add; split <;> simp_all
theorem own_trim {B : Nat} {w : World} {v : Value} {l : List Nat} (h : w.ownsRow B 3 1 v l.length (dcells l)) (hd : Digs l) :
   ∃ p b cap, v = .slice p l.length cap ∧ (0 < l.length → p = some ⟨b, 0, none⟩) ∧ (p = none ∨ p = some ⟨b, 0, none⟩) ∧ l.length ≤ cap ∧ (p = none → cap = 0) ∧
     (∀ j (hj : j < l.length), w.cell? ⟨b, j, none⟩ = some (.int .i64 (l[j] : Int))) ∧
     w.ownsRow B 3 1 (.slice p (digs (val l)).length cap) (digs (val l)).length (dcells (digs (val l))) := by
 obtain ⟨hle, ht⟩ := digs_take hd
 rcases h.2 with ⟨rfl, h0⟩ | ⟨g, cap, cur, rfl, hB, hg, hn, hm, hs, htk⟩
 · have : l = [] := List.length_eq_zero_iff.1 h0
   subst this
   have e : digs (val []) = [] := digs_zero
   refine ⟨none, 0, 0, rfl, fun h => absurd h (by decide), .inl rfl, Nat.le_refl _, fun _ => rfl, fun j hj => absurd hj (by simp), ?_⟩
   rw [e]
   exact World.ownsRow_nil _ _ _ _
 · refine ⟨some ⟨g, 0, none⟩, g, cap, rfl, fun _ => rfl, .inr rfl, hn, fun h => by simp at h, ?_, ?_, .inr ⟨g, cap, cur, rfl, hB, hg, by omega, hm, hs, ?_⟩⟩
   · intro j hj
     have := h.cells (g := g) rfl j (.int .i64 (l[j] : Int)) (by simp [dcells, List.getElem?_eq_getElem hj])
     rw [add_head] at this; exact this
   · simp [dcells]
   · rw [Nat.mul_one]
     rw [Nat.mul_one] at htk
     have : cur.toList.take (digs (val l)).length = (cur.toList.take l.length).take (digs (val l)).length := by rw [List.take_take, Nat.min_eq_left hle]
     rw [this, htk]
     show (dcells l).take _ = dcells (digs (val l))
     conv => rhs; rw [ht]
     rw [dcells, dcells, List.map_take]
end Go.Proofs.YtpdoddhieblooaaGreatDoor
