/- Numbers as lists of words of 32 bits, the least one first: what a list spells, and how its parts, a changed place and a list without zeros at its end spell it: no program in this text. -/
import Derived.Test.YtpdoddhieblooaaGreatDoorKDigFrom
namespace Go.Proofs.YtpdoddhieblooaaGreatDoor

def wval : List Nat → Nat
 | [] => 0
 | d :: r => d + 4294967296 * wval r
theorem wval_nil : wval [] = 0 := rfl
theorem wval_cons (d : Nat) (r : List Nat) : wval (d :: r) = d + 4294967296 * wval r := rfl
theorem wval_append : ∀ (a b : List Nat), wval (a ++ b) = wval a + 4294967296 ^ a.length * wval b
 | [], b => by simp [wval]
 | d :: a, b => by
   rw [List.cons_append, wval_cons, wval_cons, wval_append a b, List.length_cons, Nat.pow_succ, Nat.mul_add, Nat.mul_comm (4294967296 ^ a.length) 4294967296, Nat.mul_assoc, Nat.add_assoc]
theorem wval_push (a : List Nat) (d : Nat) : wval (a ++ [d]) = wval a + 4294967296 ^ a.length * d := by
 rw [wval_append, wval_cons, wval_nil, Nat.mul_zero, Nat.add_zero]
theorem wval_split (l : List Nat) (n : Nat) (hn : n ≤ l.length) : wval l = wval (l.take n) + 4294967296 ^ n * wval (l.drop n) := by
 conv => lhs; rw [← List.take_append_drop n l, wval_append, List.length_take_of_le hn]
theorem wval_drop (l : List Nat) (i : Nat) : wval (l.drop i) = (l[i]?).getD 0 + 4294967296 * wval (l.drop (i + 1)) := by
 by_cases h : i < l.length
 · rw [List.drop_eq_getElem_cons h, wval_cons, List.getElem?_eq_getElem h]; rfl
 · rw [List.drop_of_length_le (by omega), List.drop_of_length_le (by omega), List.getElem?_eq_none (by omega)]; rfl
theorem wval_drop_end (l : List Nat) (i : Nat) (h : l.length ≤ i) : wval (l.drop i) = 0 := by
 rw [List.drop_of_length_le h]; rfl
theorem wval_take_succ (l : List Nat) (i : Nat) (h : i < l.length) : wval (l.take (i + 1)) = wval (l.take i) + 4294967296 ^ i * l[i] := by
 rw [List.take_succ_eq_append_getElem h, wval_push, List.length_take_of_le (Nat.le_of_lt h)]
theorem wval_set : ∀ (l : List Nat) (j : Nat) (h : j < l.length) (x : Nat), wval (l.set j (l[j] + x)) = wval l + 4294967296 ^ j * x
 | [], j, h, x => by simp at h
 | d :: r, 0, h, x => by simp [wval]; omega
 | d :: r, j + 1, h, x => by
   have hj : j < r.length := by simpa using h
   rw [List.set_cons_succ, wval_cons, wval_cons, List.getElem_cons_succ, wval_set r j hj x, Nat.pow_succ, Nat.mul_add, Nat.mul_comm (4294967296 ^ j) 4294967296, Nat.mul_assoc, Nat.add_assoc]
def Wrds (l : List Nat) : Prop := ∀ d ∈ l, d < 4294967296
theorem Wrds.nil : Wrds [] := fun _ h => by cases h
theorem Wrds.cons {d : Nat} {r : List Nat} (hd : d < 4294967296) (hr : Wrds r) : Wrds (d :: r) := by
 intro x hx
 rcases List.mem_cons.1 hx with rfl | hx
 · exact hd
 · exact hr x hx
theorem Wrds.tail {d : Nat} {r : List Nat} (h : Wrds (d :: r)) : Wrds r := fun x hx => h x (List.mem_cons_of_mem _ hx)
theorem Wrds.head {d : Nat} {r : List Nat} (h : Wrds (d :: r)) : d < 4294967296 := h d (List.mem_cons_self ..)
theorem Wrds.push {l : List Nat} {d : Nat} (hl : Wrds l) (hd : d < 4294967296) : Wrds (l ++ [d]) := by
 intro x hx
 rcases List.mem_append.1 hx with hx | hx
 · exact hl x hx
 · rw [List.mem_singleton.1 hx]; exact hd
theorem Wrds.take {l : List Nat} (hl : Wrds l) (n : Nat) : Wrds (l.take n) := fun x hx => hl x (List.mem_of_mem_take hx)
theorem Wrds.drop {l : List Nat} (hl : Wrds l) (n : Nat) : Wrds (l.drop n) := fun x hx => hl x (List.mem_of_mem_drop hx)
theorem Wrds.set {l : List Nat} (hl : Wrds l) (n : Nat) {d : Nat} (hd : d < 4294967296) : Wrds (l.set n d) := by
 intro x hx
 rcases List.mem_or_eq_of_mem_set hx with hx | rfl
 · exact hl x hx
 · exact hd
theorem Wrds.at {l : List Nat} (hl : Wrds l) (i : Nat) (h : i < l.length) : l[i] < 4294967296 := hl _ (List.getElem_mem h)
theorem Wrds.at? {l : List Nat} (hl : Wrds l) (i : Nat) : (l[i]?).getD 0 < 4294967296 := by
 by_cases h : i < l.length
 · rw [List.getElem?_eq_getElem h]; exact hl.at i h
 · rw [List.getElem?_eq_none (by omega)]; decide
theorem wval_lt : ∀ (l : List Nat), Wrds l → wval l < 4294967296 ^ l.length
 | [], _ => by simp [wval]
 | d :: r, h => by
   have := wval_lt r h.tail
   have := h.head
   rw [wval_cons, List.length_cons, Nat.pow_succ]
   omega
theorem wval_zeros : ∀ (l : List Nat), (∀ d ∈ l, d = 0) → wval l = 0
 | [], _ => rfl
 | d :: r, h => by
   rw [wval_cons, h d (List.mem_cons_self ..), wval_zeros r fun x hx => h x (List.mem_cons_of_mem _ hx)]
theorem wval_ge (l : List Nat) (h : Neat l) (hl : 0 < l.length) : 4294967296 ^ (l.length - 1) ≤ wval l := by
 have hd := h.last hl
 have e := wval_take_succ l (l.length - 1) (by omega)
 rw [show l.length - 1 + 1 = l.length by omega, List.take_length] at e
 rw [e]
 have : 4294967296 ^ (l.length - 1) * 1 ≤ 4294967296 ^ (l.length - 1) * l[l.length - 1] := Nat.mul_le_mul_left _ (by omega)
 omega
theorem wval_lt_of_length {a b : List Nat} (ha : Wrds a) (hb : Neat b) (h : a.length < b.length) : wval a < wval b :=
 Nat.lt_of_lt_of_le (wval_lt a ha) (Nat.le_trans (Nat.pow_le_pow_right (by decide) (by omega)) (wval_ge b hb (by omega)))
theorem wlength_le_of_wval {a b : List Nat} (hb : Wrds b) (ha : Neat a) (h : wval a ≤ wval b) : a.length ≤ b.length := by
 by_cases hl : a.length ≤ b.length
 · exact hl
 · exact absurd (wval_lt_of_length hb ha (by omega)) (by omega)
theorem wval_lt_of_place {a b : List Nat} (i : Nat) (ha : Wrds a) (hia : i < a.length) (hib : i < b.length) (htop : a.drop (i + 1) = b.drop (i + 1)) (h : a[i] < b[i]) : wval a < wval b := by
 have ea := wval_split a (i + 1) (by omega)
 have eb := wval_split b (i + 1) (by omega)
 rw [wval_take_succ a i hia] at ea
 rw [wval_take_succ b i hib] at eb
 rw [htop] at ea
 have hlow := wval_lt (a.take i) (ha.take i)
 rw [List.length_take_of_le (by omega)] at hlow
 have : 4294967296 ^ i * (a[i] + 1) ≤ 4294967296 ^ i * b[i] := Nat.mul_le_mul_left _ (by omega)
 rw [Nat.mul_add, Nat.mul_one] at this
 omega
theorem wval_inj : ∀ {a b : List Nat}, Wrds a → Wrds b → Neat a → Neat b → wval a = wval b → a = b := by
 have key : ∀ (a b : List Nat), a.length = b.length → Wrds a → Wrds b → wval a = wval b → a = b := by
   intro a
   induction a with
   | nil => intro b hl _ _ _; exact (List.length_eq_zero_iff.1 hl.symm).symm
   | cons d r ih =>
     intro b hl ha hb hv
     cases b with
     | nil => simp at hl
     | cons d' r' =>
       have := ha.head
       have := hb.head
       rw [wval_cons, wval_cons] at hv
       have hd : d = d' := by omega
       subst hd
       rw [ih r' (by simpa using hl) ha.tail hb.tail (by omega)]
 intro a b ha hb na nb hv
 exact key a b (Nat.le_antisymm (wlength_le_of_wval hb na (Nat.le_of_eq hv)) (wlength_le_of_wval ha nb (Nat.le_of_eq hv.symm))) ha hb hv
def wrds (n : Nat) : List Nat := if h : n = 0 then [] else n % 4294967296 :: wrds (n / 4294967296)
termination_by n
decreasing_by omega
theorem wrds_zero : wrds 0 = [] := by rw [wrds]; rfl
theorem wrds_pos (n : Nat) (h : 0 < n) : wrds n = n % 4294967296 :: wrds (n / 4294967296) := by rw [wrds, dif_neg (by omega)]
theorem wval_digs (n : Nat) : wval (wrds n) = n := by
 induction n using Nat.strongRecOn with
 | ind n ih =>
   by_cases h : n = 0
   · subst h; rw [wrds_zero]; rfl
   · rw [wrds_pos n (by omega), wval_cons, ih (n / 4294967296) (by omega)]; omega
theorem wrds_digs (n : Nat) : Wrds (wrds n) := by
 induction n using Nat.strongRecOn with
 | ind n ih =>
   by_cases h : n = 0
   · subst h; rw [wrds_zero]; exact Wrds.nil
   · rw [wrds_pos n (by omega)]; exact Wrds.cons (by omega) (ih (n / 4294967296) (by omega))
theorem wrds_neat (n : Nat) : Neat (wrds n) := by
 induction n using Nat.strongRecOn with
 | ind n ih =>
   by_cases h : n = 0
   · subst h; rw [wrds_zero]; exact Neat.nil
   · rw [wrds_pos n (by omega)]
     by_cases h' : n / 4294967296 = 0
     · rw [h', wrds_zero]
       show [n % 4294967296].getLast? ≠ some 0
       rw [List.getLast?_singleton]
       intro e
       have : n % 4294967296 = 0 := Option.some.inj e
       omega
     · have hi := ih (n / 4294967296) (by omega)
       unfold Neat at hi ⊢
       rw [wrds_pos (n / 4294967296) (by omega)] at hi ⊢
       rw [List.getLast?_cons_cons]; exact hi
theorem wrds_val {l : List Nat} (h : Wrds l) (hn : Neat l) : wrds (wval l) = l :=
 wval_inj (wrds_digs _) h (wrds_neat _) hn (wval_digs _)
theorem wrds_length (n k : Nat) (h : n < 4294967296 ^ k) : (wrds n).length ≤ k := by
 by_cases hl : (wrds n).length ≤ k
 · exact hl
 · have := wval_ge (wrds n) (wrds_neat n) (by omega)
   rw [wval_digs] at this
   have : 4294967296 ^ k ≤ 4294967296 ^ ((wrds n).length - 1) := Nat.pow_le_pow_right (by decide) (by omega)
   omega
end Go.Proofs.YtpdoddhieblooaaGreatDoor
