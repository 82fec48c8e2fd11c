/- Strings of characters and of bits as lists of bytes, and what layer 5 makes of them: no program in this text. -/
import Derived.Lib.Strings
namespace Go.Proofs.YtllpldndkojagaaGreatDoor

/-- The filler of a kind; which bytes a kind has; which texts are strings of it. -/
def fillC (k : Int) : UInt8 := if k = 5 then 48 else 32
def topC (k : Int) : UInt8 := if k = 5 then 49 else 126
def okC (k : Int) (c : UInt8) : Bool := decide ((fillC k).toNat ≤ c.toNat) && decide (c.toNat ≤ (topC k).toNat)
def okT (k : Int) (l : List UInt8) : Bool := (k == 4 || k == 5) && decide (l.length ≤ 250) && l.all (okC k)
def okV (k n q : Int) (l : List UInt8) : Bool := n == 0 && q == 0 && okT k l
def okY (k p q n : Int) (pic : List UInt8) : Bool := (k == 4 || k == 5) && decide (0 ≤ n) && decide (n ≤ 250) && (p == 0 && q == 0 && pic == [])

theorem okT_kind {k : Int} {l : List UInt8} (h : okT k l = true) : k = 4 ∨ k = 5 := by
  simp only [okT, Bool.and_eq_true, Bool.or_eq_true, beq_iff_eq] at h
  exact h.1.1
theorem okT_len {k : Int} {l : List UInt8} (h : okT k l = true) : l.length ≤ 250 := by
  simp only [okT, Bool.and_eq_true, decide_eq_true_eq] at h
  exact h.1.2
theorem okT_all {k : Int} {l : List UInt8} (h : okT k l = true) : ∀ c ∈ l, okC k c = true := by
  simp only [okT, Bool.and_eq_true, List.all_eq_true] at h
  exact h.2
theorem okT_mk {k : Int} {l : List UInt8} (h : k = 4 ∨ k = 5) (hl : l.length ≤ 250) (ha : ∀ c ∈ l, okC k c = true) : okT k l = true := by
  simp only [okT, Bool.and_eq_true, Bool.or_eq_true, beq_iff_eq, decide_eq_true_eq, List.all_eq_true]
  exact ⟨⟨h, hl⟩, ha⟩
theorem okV_eq {k n q : Int} {l : List UInt8} (h : okV k n q l = true) : n = 0 ∧ q = 0 ∧ okT k l = true := by
  simp only [okV, Bool.and_eq_true, beq_iff_eq] at h
  exact ⟨h.1.1, h.1.2, h.2⟩
theorem okV_mk {k : Int} {l : List UInt8} (h : okT k l = true) : okV k 0 0 l = true := by simp [okV, h]
theorem fill_ok {k : Int} (h : k = 4 ∨ k = 5) : okC k (fillC k) = true := by
  rcases h with rfl | rfl <;> decide

/-- The items of a string, fillers behind them. -/
def getF (k : Int) (l : List UInt8) (i : Nat) : UInt8 := l.getD i (fillC k)
theorem getF_lt {k : Int} {l : List UInt8} {i : Nat} (h : i < l.length) : getF k l i = l[i] := by
  simp [getF, List.getD, List.getElem?_eq_getElem h]
theorem getF_ge {k : Int} {l : List UInt8} {i : Nat} (h : l.length ≤ i) : getF k l i = fillC k := by
  simp [getF, List.getD, List.getElem?_eq_none h]
theorem getF_ok {k : Int} {l : List UInt8} (hk : k = 4 ∨ k = 5) (h : ∀ c ∈ l, okC k c = true) (i : Nat) : okC k (getF k l i) = true := by
  by_cases hi : i < l.length
  · rw [getF_lt hi]; exact h _ (List.getElem_mem hi)
  · rw [getF_ge (by omega)]; exact fill_ok hk

/-- What a teller tells, place by place. -/
def tellL (n : Nat) (f : Nat → UInt8) : List UInt8 := (List.range n).map f
theorem tellL_len (n : Nat) (f : Nat → UInt8) : (tellL n f).length = n := by simp [tellL]
theorem tellL_succ (n : Nat) (f : Nat → UInt8) : tellL (n + 1) f = tellL n f ++ [f n] := by simp [tellL, List.range_succ]
theorem tellL_get (n : Nat) (f : Nat → UInt8) (i : Nat) (h : i < (tellL n f).length) : (tellL n f)[i] = f i := by simp [tellL]
theorem tellL_mem {n : Nat} {f : Nat → UInt8} {p : UInt8 → Prop} (h : ∀ i, i < n → p (f i)) : ∀ c ∈ tellL n f, p c := by
  intro c hc
  simp only [tellL, List.mem_map, List.mem_range] at hc
  obtain ⟨i, hi, rfl⟩ := hc
  exact h i hi
theorem tellL_congr {n : Nat} {f g : Nat → UInt8} (h : ∀ i, i < n → f i = g i) : tellL n f = tellL n g := by
  unfold tellL
  apply List.map_congr_left
  intro i hi
  exact h i (List.mem_range.1 hi)
/-- A list is what its places tell. -/
theorem tell_eq {l : List UInt8} {n : Nat} {f : Nat → UInt8} (hl : l.length = n) (h : ∀ i (hi : i < l.length), l[i] = f i) : l = tellL n f := by
  apply List.ext_getElem
  · rw [tellL_len, hl]
  · intro i h1 h2
    rw [tellL_get, h i h1]

/-! ### Fit -/

def fitL (k : Int) (l : List UInt8) (n : Nat) (vy : Bool) : List UInt8 := tellL (if vy then min l.length n else n) (getF k l)
def fitC (l : List UInt8) (n : Nat) : Int := if n < l.length then 6 else 0

theorem fit_take (k : Int) (l : List UInt8) (n : Nat) (h : n ≤ l.length) : tellL n (getF k l) = l.take n := by
  symm
  apply tell_eq (by simp; omega)
  intro i hi
  have : i < l.length := by simp at hi; omega
  rw [List.getElem_take, getF_lt this]
theorem fit_pad (k : Int) (l : List UInt8) (n : Nat) (h : l.length ≤ n) : tellL n (getF k l) = l ++ List.replicate (n - l.length) (fillC k) := by
  symm
  apply tell_eq (by simp; omega)
  intro i hi
  by_cases h1 : i < l.length
  · rw [List.getElem_append_left h1, getF_lt h1]
  · rw [List.getElem_append_right (by omega), List.getElem_replicate, getF_ge (by omega)]
theorem fit_self (k : Int) (l : List UInt8) : tellL l.length (getF k l) = l := by rw [fit_take k l _ (Nat.le_refl _), List.take_length]

/-! ### Parts -/

/-- Where the places of a part begin and end. -/
def clampN (x : Int) (n : Nat) : Nat := (min (max x 0) n).toNat
def begN (l : List UInt8) (i : Int) : Nat := clampN (i - 1) l.length
def endN (l : List UInt8) (i n : Int) : Nat := max (begN l i) (clampN (i - 1 + n) l.length)
def partC (l : List UInt8) (i n : Int) : Int := if 1 ≤ i ∧ 0 ≤ n ∧ i + n - 1 ≤ l.length then 0 else 5
def subL (l : List UInt8) (i n : Int) : List UInt8 := (l.take (endN l i n)).drop (begN l i)
theorem begN_le (l : List UInt8) (i : Int) : begN l i ≤ l.length := by unfold begN clampN; omega
theorem endN_le (l : List UInt8) (i n : Int) : endN l i n ≤ l.length := by
  have := begN_le l i
  unfold endN clampN at *; omega
theorem beg_endN (l : List UInt8) (i n : Int) : begN l i ≤ endN l i n := by unfold endN; omega

/-- The document's walk over the places of a part. -/
def subTo (l : List UInt8) (i n : Int) (k : Nat) : List UInt8 := (l.take (min k (endN l i n))).drop (begN l i)
theorem subTo_zero (l : List UInt8) (i n : Int) : subTo l i n 0 = [] := by simp [subTo]
theorem subTo_all (l : List UInt8) (i n : Int) : subTo l i n l.length = subL l i n := by
  have := endN_le l i n
  simp [subTo, subL, Nat.min_eq_right this]
theorem subTo_in (l : List UInt8) (i n : Int) (k : Nat) (h : k < l.length) (h1 : i ≤ k + 1) (h2 : (k : Int) + 1 ≤ i + n - 1) : subTo l i n (k + 1) = subTo l i n k ++ [l[k]] := by
  have hb : begN l i ≤ k := by unfold begN clampN; omega
  have he : k < endN l i n := by unfold endN clampN; omega
  unfold subTo
  rw [Nat.min_eq_left (by omega), Nat.min_eq_left (by omega), List.take_succ_eq_append_getElem h, List.drop_append_of_le_length (by simp; omega)]
theorem subTo_out (l : List UInt8) (i n : Int) (k : Nat) (h : k < l.length) (h1 : ¬ (i ≤ k + 1 ∧ (k : Int) + 1 ≤ i + n - 1)) : subTo l i n (k + 1) = subTo l i n k := by
  have hb : k < begN l i ∨ endN l i n ≤ k := by unfold endN begN clampN at *; omega
  have hbe := beg_endN l i n
  unfold subTo
  rcases hb with hb | hb
  · rw [List.drop_eq_nil_of_le (by simp; omega), List.drop_eq_nil_of_le (by simp; omega)]
  · rw [Nat.min_eq_right (by omega), Nat.min_eq_right (by omega)]

/-- A part that is set. -/
def setF (k : Int) (l : List UInt8) (i n : Int) (v : List UInt8) (j : Nat) : UInt8 := if 0 ≤ (j : Int) - (i - 1) ∧ (j : Int) - (i - 1) < n then getF k v ((j : Int) - (i - 1)).toNat else getF k l j
def setL (k : Int) (l : List UInt8) (i n : Int) (v : List UInt8) : List UInt8 := tellL l.length (setF k l i n v)
theorem set_in (l : List UInt8) (i n : Int) (j : Nat) (h : j < l.length) : (begN l i ≤ j ∧ j < endN l i n) ↔ (0 ≤ (j : Int) - (i - 1) ∧ (j : Int) - (i - 1) < n) := by
  unfold endN begN clampN; omega

/-! ### What is found -/

/-- The least place that is wanted, from 1 on. -/
def leastN (p : Nat → Bool) : Nat → Nat
  | 0 => 0
  | n + 1 => if leastN p n ≠ 0 then leastN p n else if p n then n + 1 else 0
def manyN (p : Nat → Bool) (n : Nat) : Nat := ((List.range n).filter p).length
theorem leastN_zero {p : Nat → Bool} {n : Nat} (h : ∀ i, i < n → p i = false) : leastN p n = 0 := by
  induction n with
  | zero => rfl
  | succ n ih =>
    have := ih (fun i hi => h i (by omega))
    simp [leastN, this, h n (by omega)]
theorem leastN_at {p : Nat → Bool} {k : Nat} (h : ∀ i, i < k → p i = false) (hk : p k = true) : ∀ n, k < n → leastN p n = k + 1 := by
  intro n hn
  induction n with
  | zero => omega
  | succ n ih =>
    by_cases e : k = n
    · subst e
      simp [leastN, leastN_zero h, hk]
    · simp [leastN, ih (by omega)]
theorem leastN_le (p : Nat → Bool) (n : Nat) : leastN p n ≤ n := by
  induction n with
  | zero => exact Nat.le_refl _
  | succ n ih => unfold leastN; split
                 · omega
                 · split <;> omega
theorem leastN_spec {p : Nat → Bool} {n a : Nat} (h : leastN p n = a + 1) : p a = true ∧ a < n ∧ ∀ i, i < a → p i = false := by
  induction n with
  | zero => cases h
  | succ n ih =>
    by_cases e : leastN p n = 0
    · have hz : ∀ i, i < n → p i = false := by
        intro i hi
        cases hp : p i with
        | false => rfl
        | true =>
          exfalso
          clear ih h
          induction n with
          | zero => omega
          | succ n ih2 =>
            unfold leastN at e
            by_cases e2 : leastN p n = 0
            · rw [if_neg (by simpa using e2)] at e
              by_cases ei : i = n
              · subst ei; rw [if_pos hp] at e; cases e
              · exact ih2 e2 (by omega)
            · rw [if_pos e2] at e; exact e2 e
      rw [leastN, if_neg (by simpa using e)] at h
      split at h
      · rename_i hp
        obtain rfl : n = a := by omega
        exact ⟨hp, by omega, hz⟩
      · cases h
    · rw [leastN, if_pos e] at h
      obtain ⟨h1, h2, h3⟩ := ih h
      exact ⟨h1, by omega, h3⟩
theorem manyN_succ (p : Nat → Bool) (n : Nat) : manyN p (n + 1) = manyN p n + if p n then 1 else 0 := by
  unfold manyN
  rw [List.range_succ, List.filter_append]
  by_cases h : p n <;> simp [h]
theorem manyN_le (p : Nat → Bool) (n : Nat) : manyN p n ≤ n := by
  have := List.length_filter_le p (List.range n)
  simpa [manyN] using this

/-- Where a text begins in another one. -/
def begsP (l p : List UInt8) (i : Nat) : Bool := !p.isEmpty && Lib.hasPrefix (l.drop i) p
def inP (l set : List UInt8) (i : Nat) : Bool := set.contains (l.getD i 0)
def notP (f : Nat → Bool) (i : Nat) : Bool := !f i

/-! ### Items that are replaced, repeated, turned round -/

def trF (k : Int) (l to from' : List UInt8) (j : Nat) : UInt8 := if from'.contains (getF k l j) then getF k to (from'.idxOf (getF k l j)) else getF k l j
def trL (k : Int) (l to from' : List UInt8) : List UInt8 := tellL l.length (trF k l to from')
def timesL (l : List UInt8) (n : Nat) : List UInt8 := tellL (l.length * n) (fun i => l.getD (i % l.length) 0)
theorem timesL_zero (l : List UInt8) : timesL l 0 = [] := rfl
theorem timesL_nil (n : Nat) : timesL [] n = [] := by simp [timesL, tellL]
theorem timesL_succ (l : List UInt8) (n : Nat) : timesL l (n + 1) = timesL l n ++ l := by
  symm
  unfold timesL
  apply tell_eq
  · simp [tellL_len, Nat.mul_add]
  · intro i hi
    simp [tellL_len] at hi
    by_cases h : i < l.length * n
    · rw [List.getElem_append_left (by rw [tellL_len]; exact h), tellL_get]
    · rw [List.getElem_append_right (by rw [tellL_len]; omega)]
      have e : i % l.length = i - l.length * n := by
        have : i = (i - l.length * n) + l.length * n := by omega
        rw [this, Nat.add_mul_mod_self_left, Nat.mod_eq_of_lt (by omega)]
        omega
      simp only [e, tellL_len]
      simp [List.getD, List.getElem?_eq_getElem (show i - l.length * n < l.length by omega)]

def dropB : List UInt8 → List UInt8
  | [] => []
  | c :: r => if c = 32 then dropB r else c :: r
def trimL (l : List UInt8) : List UInt8 := (dropB (dropB l.reverse).reverse)

/-! ### Logic -/

def bitF (t : List UInt8) (x y : UInt8) : UInt8 := t.getD (2 * (x.toNat - 48) + (y.toNat - 48)) 0
def boolL (a b t : List UInt8) : List UInt8 := tellL (max a.length b.length) (fun i => bitF t (getF 5 a i) (getF 5 b i))
def notL (a : List UInt8) : List UInt8 := tellL a.length (fun i => if getF 5 a i = 48 then 49 else 48)
def okTab (t : List UInt8) : Bool := decide (t.length = 4) && t.all (okC 5)

/-! ### Order -/

def cmpB (x y : UInt8) : Int := if x.toNat < y.toNat then -1 else if y.toNat < x.toNat then 1 else 0
def cmpTo (f g : Nat → UInt8) : Nat → Int
  | 0 => 0
  | n + 1 => if cmpTo f g n ≠ 0 then cmpTo f g n else cmpB (f n) (g n)
def cmpL (k : Int) (a b : List UInt8) : Int := cmpTo (getF k a) (getF k b) (max a.length b.length)
theorem cmpTo_zero {f g : Nat → UInt8} {n : Nat} (h : ∀ i, i < n → f i = g i) : cmpTo f g n = 0 := by
  induction n with
  | zero => rfl
  | succ n ih => simp [cmpTo, ih (fun i hi => h i (by omega)), h n (by omega), cmpB]
theorem cmpTo_at {f g : Nat → UInt8} {k : Nat} (h : ∀ i, i < k → f i = g i) (hk : cmpB (f k) (g k) ≠ 0) : ∀ n, k < n → cmpTo f g n = cmpB (f k) (g k) := by
  intro n hn
  induction n with
  | zero => omega
  | succ n ih =>
    by_cases e : k = n
    · subst e
      simp [cmpTo, cmpTo_zero h]
    · simp [cmpTo, ih (by omega), hk]
end Go.Proofs.YtllpldndkojagaaGreatDoor
