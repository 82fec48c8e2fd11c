/- Numbers as lists of decimal digits, the least one first: what a list spells, and how its parts, a changed place and a list without zeros at its end spell it: no program in this text. -/
import Derived.Below
namespace Go.Proofs.YtllpldndkojagaaGreatDoor

/-- What digits spell, the least one first (also where a place holds more than 9). -/
def val : List Nat → Nat
  | [] => 0
  | d :: r => d + 10 * val r

theorem val_nil : val [] = 0 := rfl
theorem val_cons (d : Nat) (r : List Nat) : val (d :: r) = d + 10 * val r := rfl

theorem val_append : ∀ (a b : List Nat), val (a ++ b) = val a + 10 ^ a.length * val b
  | [], b => by simp [val]
  | d :: a, b => by
    rw [List.cons_append, val_cons, val_cons, val_append a b, List.length_cons, Nat.pow_succ, Nat.mul_add, Nat.mul_comm (10 ^ a.length) 10, Nat.mul_assoc, Nat.add_assoc]

/-- One place more. -/
theorem val_push (a : List Nat) (d : Nat) : val (a ++ [d]) = val a + 10 ^ a.length * d := by
  rw [val_append, val_cons, val_nil, Nat.mul_zero, Nat.add_zero]

theorem val_split (l : List Nat) (n : Nat) (hn : n ≤ l.length) : val l = val (l.take n) + 10 ^ n * val (l.drop n) := by
  conv => lhs; rw [← List.take_append_drop n l, val_append, List.length_take_of_le hn]

/-- The digit at a place, 0 beyond the end. -/
theorem val_drop (l : List Nat) (i : Nat) : val (l.drop i) = (l[i]?).getD 0 + 10 * val (l.drop (i + 1)) := by
  by_cases h : i < l.length
  · rw [List.drop_eq_getElem_cons h, val_cons, List.getElem?_eq_getElem h]; rfl
  · rw [List.drop_of_length_le (by omega), List.drop_of_length_le (by omega), List.getElem?_eq_none (by omega)]; rfl

theorem val_drop_end (l : List Nat) (i : Nat) (h : l.length ≤ i) : val (l.drop i) = 0 := by
  rw [List.drop_of_length_le h]; rfl

theorem val_take_succ (l : List Nat) (i : Nat) (h : i < l.length) : val (l.take (i + 1)) = val (l.take i) + 10 ^ i * l[i] := by
  rw [List.take_succ_eq_append_getElem h, val_push, List.length_take_of_le (Nat.le_of_lt h)]

/-- A place turned: what is added there counts 10 to the place. -/
theorem val_set : ∀ (l : List Nat) (j : Nat) (h : j < l.length) (x : Nat), val (l.set j (l[j] + x)) = val l + 10 ^ j * x
  | [], j, h, x => by simp at h
  | d :: r, 0, h, x => by simp [val]; omega
  | d :: r, j + 1, h, x => by
    have hj : j < r.length := by simpa using h
    rw [List.set_cons_succ, val_cons, val_cons, List.getElem_cons_succ, val_set r j hj x, Nat.pow_succ, Nat.mul_add, Nat.mul_comm (10 ^ j) 10, Nat.mul_assoc, Nat.add_assoc]

/-- Every place holds a digit. -/
def Digs (l : List Nat) : Prop := ∀ d ∈ l, d < 10

theorem Digs.nil : Digs [] := fun _ h => by cases h
theorem Digs.cons {d : Nat} {r : List Nat} (hd : d < 10) (hr : Digs r) : Digs (d :: r) := by
  intro x hx
  rcases List.mem_cons.1 hx with rfl | hx
  · exact hd
  · exact hr x hx
theorem Digs.tail {d : Nat} {r : List Nat} (h : Digs (d :: r)) : Digs r := fun x hx => h x (List.mem_cons_of_mem _ hx)
theorem Digs.head {d : Nat} {r : List Nat} (h : Digs (d :: r)) : d < 10 := h d (List.mem_cons_self ..)
theorem Digs.push {l : List Nat} {d : Nat} (hl : Digs l) (hd : d < 10) : Digs (l ++ [d]) := by
  intro x hx
  rcases List.mem_append.1 hx with hx | hx
  · exact hl x hx
  · rw [List.mem_singleton.1 hx]; exact hd
theorem Digs.take {l : List Nat} (hl : Digs l) (n : Nat) : Digs (l.take n) := fun x hx => hl x (List.mem_of_mem_take hx)
theorem Digs.drop {l : List Nat} (hl : Digs l) (n : Nat) : Digs (l.drop n) := fun x hx => hl x (List.mem_of_mem_drop hx)
theorem Digs.set {l : List Nat} (hl : Digs l) (n : Nat) {d : Nat} (hd : d < 10) : Digs (l.set n d) := by
  intro x hx
  rcases List.mem_or_eq_of_mem_set hx with hx | rfl
  · exact hl x hx
  · exact hd
theorem Digs.at {l : List Nat} (hl : Digs l) (i : Nat) (h : i < l.length) : l[i] < 10 := hl _ (List.getElem_mem h)
theorem Digs.at? {l : List Nat} (hl : Digs l) (i : Nat) : (l[i]?).getD 0 < 10 := by
  by_cases h : i < l.length
  · rw [List.getElem?_eq_getElem h]; exact hl.at i h
  · rw [List.getElem?_eq_none (by omega)]; decide

theorem val_lt : ∀ (l : List Nat), Digs l → val l < 10 ^ l.length
  | [], _ => by simp [val]
  | d :: r, h => by
    have := val_lt r h.tail
    have := h.head
    rw [val_cons, List.length_cons, Nat.pow_succ]
    omega

/-- Zeros from a place on count nothing. -/
theorem val_zeros : ∀ (l : List Nat), (∀ d ∈ l, d = 0) → val l = 0
  | [], _ => rfl
  | d :: r, h => by
    rw [val_cons, h d (List.mem_cons_self ..), val_zeros r fun x hx => h x (List.mem_cons_of_mem _ hx)]

theorem val_take_zeros (l : List Nat) (n : Nat) (hn : n ≤ l.length) (h : ∀ i, n ≤ i → (l[i]?).getD 0 = 0) : val (l.take n) = val l := by
  rw [val_split l n hn, val_zeros (l.drop n), Nat.mul_zero, Nat.add_zero]
  intro d hd
  obtain ⟨i, hi, rfl⟩ := List.mem_iff_getElem.1 hd
  rw [List.length_drop] at hi
  have := h (n + i) (by omega)
  rw [List.getElem?_eq_getElem (by omega)] at this
  rw [List.getElem_drop]; exact this

/-- No zero at the end. -/
def Neat (l : List Nat) : Prop := l.getLast? ≠ some 0

theorem Neat.nil : Neat [] := by simp [Neat]
theorem Neat.last {l : List Nat} (h : Neat l) (hl : 0 < l.length) : l[l.length - 1] ≠ 0 := by
  intro e
  apply h
  rw [List.getLast?_eq_getElem?, List.getElem?_eq_getElem (by omega), e]
theorem neat_of_last {l : List Nat} (h : ∀ hl : 0 < l.length, l[l.length - 1] ≠ 0) : Neat l := by
  intro e
  rw [List.getLast?_eq_getElem?] at e
  obtain ⟨hi, he⟩ := List.getElem?_eq_some_iff.1 e
  exact h (by omega) he

/-- A list without zeros at its end spells no less than its highest place. -/
theorem val_ge (l : List Nat) (h : Neat l) (hl : 0 < l.length) : 10 ^ (l.length - 1) ≤ val l := by
  have hd := h.last hl
  have e := val_take_succ l (l.length - 1) (by omega)
  rw [show l.length - 1 + 1 = l.length by omega, List.take_length] at e
  rw [e]
  have : 10 ^ (l.length - 1) * 1 ≤ 10 ^ (l.length - 1) * l[l.length - 1] := Nat.mul_le_mul_left _ (by omega)
  omega

theorem val_pos (l : List Nat) (h : Neat l) (hl : 0 < l.length) : 0 < val l :=
  Nat.lt_of_lt_of_le (Nat.pow_pos (by decide)) (val_ge l h hl)

theorem nil_of_val {l : List Nat} (h : Neat l) (h0 : val l = 0) : l = [] := by
  cases l with
  | nil => rfl
  | cons d r => exact absurd h0 (Nat.ne_of_gt (val_pos _ h (by simp)))

/-- Fewer places, a lesser number. -/
theorem val_lt_of_length {a b : List Nat} (ha : Digs a) (hb : Neat b) (h : a.length < b.length) : val a < val b :=
  Nat.lt_of_lt_of_le (val_lt a ha) (Nat.le_trans (Nat.pow_le_pow_right (by decide) (by omega)) (val_ge b hb (by omega)))

theorem length_le_of_val {a b : List Nat} (hb : Digs b) (ha : Neat a) (h : val a ≤ val b) : a.length ≤ b.length := by
  by_cases hl : a.length ≤ b.length
  · exact hl
  · exact absurd (val_lt_of_length hb ha (by omega)) (by omega)

/-- The highest place that differs decides. -/
theorem val_lt_of_place {a b : List Nat} (i : Nat) (ha : Digs a) (hia : i < a.length) (hib : i < b.length) (htop : a.drop (i + 1) = b.drop (i + 1)) (h : a[i] < b[i]) : val a < val b := by
  have ea := val_split a (i + 1) (by omega)
  have eb := val_split b (i + 1) (by omega)
  rw [val_take_succ a i hia] at ea
  rw [val_take_succ b i hib] at eb
  rw [htop] at ea
  have hlow := val_lt (a.take i) (ha.take i)
  rw [List.length_take_of_le (by omega)] at hlow
  have : 10 ^ i * (a[i] + 1) ≤ 10 ^ i * b[i] := Nat.mul_le_mul_left _ (by omega)
  rw [Nat.mul_add, Nat.mul_one] at this
  omega

/-- Digits without zeros at the end are told by what they spell. -/
theorem val_inj : ∀ {a b : List Nat}, Digs a → Digs b → Neat a → Neat b → val a = val b → a = b := by
  have key : ∀ (a b : List Nat), a.length = b.length → Digs a → Digs b → val a = val b → a = b := by
    intro a
    induction a with
    | nil => intro b hl _ _ _; exact (List.length_eq_zero_iff.1 hl.symm).symm
    | cons d r ih =>
      intro b hl ha hb hv
      cases b with
      | nil => simp at hl
      | cons d' r' =>
        have := ha.head
        have := hb.head
        rw [val_cons, val_cons] at hv
        have hd : d = d' := by omega
        subst hd
        rw [ih r' (by simpa using hl) ha.tail hb.tail (by omega)]
  intro a b ha hb na nb hv
  exact key a b (Nat.le_antisymm (length_le_of_val hb na (Nat.le_of_eq hv)) (length_le_of_val ha nb (Nat.le_of_eq hv.symm))) ha hb hv

/-- The digits of a number. -/
def digs (n : Nat) : List Nat := if h : n = 0 then [] else n % 10 :: digs (n / 10)
termination_by n
decreasing_by omega

theorem digs_zero : digs 0 = [] := by rw [digs]; rfl
theorem digs_pos (n : Nat) (h : 0 < n) : digs n = n % 10 :: digs (n / 10) := by rw [digs, dif_neg (by omega)]

theorem val_digs (n : Nat) : val (digs n) = n := by
  induction n using Nat.strongRecOn with
  | ind n ih =>
    by_cases h : n = 0
    · subst h; rw [digs_zero]; rfl
    · rw [digs_pos n (by omega), val_cons, ih (n / 10) (by omega)]; omega

theorem digs_digs (n : Nat) : Digs (digs n) := by
  induction n using Nat.strongRecOn with
  | ind n ih =>
    by_cases h : n = 0
    · subst h; rw [digs_zero]; exact Digs.nil
    · rw [digs_pos n (by omega)]; exact Digs.cons (by omega) (ih (n / 10) (by omega))

theorem digs_neat (n : Nat) : Neat (digs n) := by
  induction n using Nat.strongRecOn with
  | ind n ih =>
    by_cases h : n = 0
    · subst h; rw [digs_zero]; exact Neat.nil
    · rw [digs_pos n (by omega)]
      by_cases h' : n / 10 = 0
      · rw [h', digs_zero]
        show [n % 10].getLast? ≠ some 0
        rw [List.getLast?_singleton]
        intro e
        have : n % 10 = 0 := Option.some.inj e
        omega
      · have hi := ih (n / 10) (by omega)
        unfold Neat at hi ⊢
        rw [digs_pos (n / 10) (by omega)] at hi ⊢
        rw [List.getLast?_cons_cons]; exact hi

/-- A list of digits without zeros at its end is its number's. -/
theorem digs_val {l : List Nat} (h : Digs l) (hn : Neat l) : digs (val l) = l :=
  val_inj (digs_digs _) h (digs_neat _) hn (val_digs _)

theorem digs_length (n k : Nat) (h : n < 10 ^ k) : (digs n).length ≤ k := by
  by_cases hl : (digs n).length ≤ k
  · exact hl
  · have := val_ge (digs n) (digs_neat n) (by omega)
    rw [val_digs] at this
    have : 10 ^ k ≤ 10 ^ ((digs n).length - 1) := Nat.pow_le_pow_right (by decide) (by omega)
    omega

end Go.Proofs.YtllpldndkojagaaGreatDoor
