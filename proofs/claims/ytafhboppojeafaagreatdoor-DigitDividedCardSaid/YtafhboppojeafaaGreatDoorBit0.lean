/- Strings of characters and of bits as lists of bytes, and what layer 5 makes of them: no program in this text. Layer 5's promises about lists of bytes: no program in this text. Strings of bytes in a walk; blocks of cells; what stays as it was. What stays as it was behind a draw. -/
import Derived.Lib.Strings
import Derived.Test.YtafhboppojeafaaGreatDoorTy
import Derived.BigGuardPart
import Derived.Deep.WholeRow
import Derived.Deep.RegionHeld3
import Derived.Deep.QuietTactic
import Derived.BigQuiet
import Derived.StillTailTactics
import Derived.Outline
import Derived.WalkSmall
namespace Go.Proofs.YtafhboppojeafaaGreatDoor

/-- The filler of a kind; which bytes a kind has; which texts are strings of it. -/
def fillC (k : Int) : UInt8 := if k = 5 then 48 else 32
def topC (k : Int) : UInt8 := if k = 5 then 49 else 126
def okC (k : Int) (c : UInt8) : Bool := decide ((fillC k).toNat ≤ c.toNat) && decide (c.toNat ≤ (topC k).toNat)
def okT (k : Int) (l : List UInt8) : Bool := (k == 4 || k == 5) && decide (l.length ≤ 250) && l.all (okC k)
def okV (k n q : Int) (l : List UInt8) : Bool := n == 0 && q == 0 && okT k l
def okY (k p q n : Int) (pic : List UInt8) : Bool := (k == 4 || k == 5) && decide (0 ≤ n) && decide (n ≤ 250) && (p == 0 && q == 0 && pic == [])

theorem okT_kind {k : Int} {l : List UInt8} (h : okT k l = true) : k = 4 ∨ k = 5 := by
  simp only [okT, Bool.and_eq_true, Bool.or_eq_true, beq_iff_eq] at h
  exact h.1.1
theorem okT_len {k : Int} {l : List UInt8} (h : okT k l = true) : l.length ≤ 250 := by
  simp only [okT, Bool.and_eq_true, decide_eq_true_eq] at h
  exact h.1.2
theorem okT_all {k : Int} {l : List UInt8} (h : okT k l = true) : ∀ c ∈ l, okC k c = true := by
  simp only [okT, Bool.and_eq_true, List.all_eq_true] at h
  exact h.2
theorem okT_mk {k : Int} {l : List UInt8} (h : k = 4 ∨ k = 5) (hl : l.length ≤ 250) (ha : ∀ c ∈ l, okC k c = true) : okT k l = true := by
  simp only [okT, Bool.and_eq_true, Bool.or_eq_true, beq_iff_eq, decide_eq_true_eq, List.all_eq_true]
  exact ⟨⟨h, hl⟩, ha⟩
theorem okV_eq {k n q : Int} {l : List UInt8} (h : okV k n q l = true) : n = 0 ∧ q = 0 ∧ okT k l = true := by
  simp only [okV, Bool.and_eq_true, beq_iff_eq] at h
  exact ⟨h.1.1, h.1.2, h.2⟩
theorem okV_mk {k : Int} {l : List UInt8} (h : okT k l = true) : okV k 0 0 l = true := by simp [okV, h]
theorem fill_ok {k : Int} (h : k = 4 ∨ k = 5) : okC k (fillC k) = true := by
  rcases h with rfl | rfl <;> decide

/-- The items of a string, fillers behind them. -/
def getF (k : Int) (l : List UInt8) (i : Nat) : UInt8 := l.getD i (fillC k)
theorem getF_lt {k : Int} {l : List UInt8} {i : Nat} (h : i < l.length) : getF k l i = l[i] := by
  simp [getF, List.getD, List.getElem?_eq_getElem h]
theorem getF_ge {k : Int} {l : List UInt8} {i : Nat} (h : l.length ≤ i) : getF k l i = fillC k := by
  simp [getF, List.getD, List.getElem?_eq_none h]
theorem getF_ok {k : Int} {l : List UInt8} (hk : k = 4 ∨ k = 5) (h : ∀ c ∈ l, okC k c = true) (i : Nat) : okC k (getF k l i) = true := by
  by_cases hi : i < l.length
  · rw [getF_lt hi]; exact h _ (List.getElem_mem hi)
  · rw [getF_ge (by omega)]; exact fill_ok hk

/-- What a teller tells, place by place. -/
def tellL (n : Nat) (f : Nat → UInt8) : List UInt8 := (List.range n).map f
theorem tellL_len (n : Nat) (f : Nat → UInt8) : (tellL n f).length = n := by simp [tellL]
theorem tellL_succ (n : Nat) (f : Nat → UInt8) : tellL (n + 1) f = tellL n f ++ [f n] := by simp [tellL, List.range_succ]
theorem tellL_get (n : Nat) (f : Nat → UInt8) (i : Nat) (h : i < (tellL n f).length) : (tellL n f)[i] = f i := by simp [tellL]
theorem tellL_mem {n : Nat} {f : Nat → UInt8} {p : UInt8 → Prop} (h : ∀ i, i < n → p (f i)) : ∀ c ∈ tellL n f, p c := by
  intro c hc
  simp only [tellL, List.mem_map, List.mem_range] at hc
  obtain ⟨i, hi, rfl⟩ := hc
  exact h i hi
theorem tellL_congr {n : Nat} {f g : Nat → UInt8} (h : ∀ i, i < n → f i = g i) : tellL n f = tellL n g := by
  unfold tellL
  apply List.map_congr_left
  intro i hi
  exact h i (List.mem_range.1 hi)
/-- A list is what its places tell. -/
theorem tell_eq {l : List UInt8} {n : Nat} {f : Nat → UInt8} (hl : l.length = n) (h : ∀ i (hi : i < l.length), l[i] = f i) : l = tellL n f := by
  apply List.ext_getElem
  · rw [tellL_len, hl]
  · intro i h1 h2
    rw [tellL_get, h i h1]

/-! ### Fit -/

def fitL (k : Int) (l : List UInt8) (n : Nat) (vy : Bool) : List UInt8 := tellL (if vy then min l.length n else n) (getF k l)
def fitC (l : List UInt8) (n : Nat) : Int := if n < l.length then 6 else 0

theorem fit_take (k : Int) (l : List UInt8) (n : Nat) (h : n ≤ l.length) : tellL n (getF k l) = l.take n := by
  symm
  apply tell_eq (by simp; omega)
  intro i hi
  have : i < l.length := by simp at hi; omega
  rw [List.getElem_take, getF_lt this]
theorem fit_pad (k : Int) (l : List UInt8) (n : Nat) (h : l.length ≤ n) : tellL n (getF k l) = l ++ List.replicate (n - l.length) (fillC k) := by
  symm
  apply tell_eq (by simp; omega)
  intro i hi
  by_cases h1 : i < l.length
  · rw [List.getElem_append_left h1, getF_lt h1]
  · rw [List.getElem_append_right (by omega), List.getElem_replicate, getF_ge (by omega)]
theorem fit_self (k : Int) (l : List UInt8) : tellL l.length (getF k l) = l := by rw [fit_take k l _ (Nat.le_refl _), List.take_length]

/-! ### Parts -/

/-- Where the places of a part begin and end. -/
def clampN (x : Int) (n : Nat) : Nat := (min (max x 0) n).toNat
def begN (l : List UInt8) (i : Int) : Nat := clampN (i - 1) l.length
def endN (l : List UInt8) (i n : Int) : Nat := max (begN l i) (clampN (i - 1 + n) l.length)
def partC (l : List UInt8) (i n : Int) : Int := if 1 ≤ i ∧ 0 ≤ n ∧ i + n - 1 ≤ l.length then 0 else 5
def subL (l : List UInt8) (i n : Int) : List UInt8 := (l.take (endN l i n)).drop (begN l i)
theorem begN_le (l : List UInt8) (i : Int) : begN l i ≤ l.length := by unfold begN clampN; omega
theorem endN_le (l : List UInt8) (i n : Int) : endN l i n ≤ l.length := by
  have := begN_le l i
  unfold endN clampN at *; omega
theorem beg_endN (l : List UInt8) (i n : Int) : begN l i ≤ endN l i n := by unfold endN; omega

/-- The document's walk over the places of a part. -/
def subTo (l : List UInt8) (i n : Int) (k : Nat) : List UInt8 := (l.take (min k (endN l i n))).drop (begN l i)
theorem subTo_zero (l : List UInt8) (i n : Int) : subTo l i n 0 = [] := by simp [subTo]
theorem subTo_all (l : List UInt8) (i n : Int) : subTo l i n l.length = subL l i n := by
  have := endN_le l i n
  simp [subTo, subL, Nat.min_eq_right this]
theorem subTo_in (l : List UInt8) (i n : Int) (k : Nat) (h : k < l.length) (h1 : i ≤ k + 1) (h2 : (k : Int) + 1 ≤ i + n - 1) : subTo l i n (k + 1) = subTo l i n k ++ [l[k]] := by
  have hb : begN l i ≤ k := by unfold begN clampN; omega
  have he : k < endN l i n := by unfold endN clampN; omega
  unfold subTo
  rw [Nat.min_eq_left (by omega), Nat.min_eq_left (by omega), List.take_succ_eq_append_getElem h, List.drop_append_of_le_length (by simp; omega)]
theorem subTo_out (l : List UInt8) (i n : Int) (k : Nat) (h : k < l.length) (h1 : ¬ (i ≤ k + 1 ∧ (k : Int) + 1 ≤ i + n - 1)) : subTo l i n (k + 1) = subTo l i n k := by
  have hb : k < begN l i ∨ endN l i n ≤ k := by unfold endN begN clampN at *; omega
  have hbe := beg_endN l i n
  unfold subTo
  rcases hb with hb | hb
  · rw [List.drop_eq_nil_of_le (by simp; omega), List.drop_eq_nil_of_le (by simp; omega)]
  · rw [Nat.min_eq_right (by omega), Nat.min_eq_right (by omega)]

/-- A part that is set. -/
def setF (k : Int) (l : List UInt8) (i n : Int) (v : List UInt8) (j : Nat) : UInt8 := if 0 ≤ (j : Int) - (i - 1) ∧ (j : Int) - (i - 1) < n then getF k v ((j : Int) - (i - 1)).toNat else getF k l j
def setL (k : Int) (l : List UInt8) (i n : Int) (v : List UInt8) : List UInt8 := tellL l.length (setF k l i n v)
theorem set_in (l : List UInt8) (i n : Int) (j : Nat) (h : j < l.length) : (begN l i ≤ j ∧ j < endN l i n) ↔ (0 ≤ (j : Int) - (i - 1) ∧ (j : Int) - (i - 1) < n) := by
  unfold endN begN clampN; omega

/-! ### What is found -/

/-- The least place that is wanted, from 1 on. -/
def leastN (p : Nat → Bool) : Nat → Nat
  | 0 => 0
  | n + 1 => if leastN p n ≠ 0 then leastN p n else if p n then n + 1 else 0
def manyN (p : Nat → Bool) (n : Nat) : Nat := ((List.range n).filter p).length
theorem leastN_zero {p : Nat → Bool} {n : Nat} (h : ∀ i, i < n → p i = false) : leastN p n = 0 := by
  induction n with
  | zero => rfl
  | succ n ih =>
    have := ih (fun i hi => h i (by omega))
    simp [leastN, this, h n (by omega)]
theorem leastN_at {p : Nat → Bool} {k : Nat} (h : ∀ i, i < k → p i = false) (hk : p k = true) : ∀ n, k < n → leastN p n = k + 1 := by
  intro n hn
  induction n with
  | zero => omega
  | succ n ih =>
    by_cases e : k = n
    · subst e
      simp [leastN, leastN_zero h, hk]
    · simp [leastN, ih (by omega)]
theorem leastN_le (p : Nat → Bool) (n : Nat) : leastN p n ≤ n := by
  induction n with
  | zero => exact Nat.le_refl _
  | succ n ih => unfold leastN; split
                 · omega
                 · split <;> omega
theorem leastN_spec {p : Nat → Bool} {n a : Nat} (h : leastN p n = a + 1) : p a = true ∧ a < n ∧ ∀ i, i < a → p i = false := by
  induction n with
  | zero => cases h
  | succ n ih =>
    by_cases e : leastN p n = 0
    · have hz : ∀ i, i < n → p i = false := by
        intro i hi
        cases hp : p i with
        | false => rfl
        | true =>
          exfalso
          clear ih h
          induction n with
          | zero => omega
          | succ n ih2 =>
            unfold leastN at e
            by_cases e2 : leastN p n = 0
            · rw [if_neg (by simpa using e2)] at e
              by_cases ei : i = n
              · subst ei; rw [if_pos hp] at e; cases e
              · exact ih2 e2 (by omega)
            · rw [if_pos e2] at e; exact e2 e
      rw [leastN, if_neg (by simpa using e)] at h
      split at h
      · rename_i hp
        obtain rfl : n = a := by omega
        exact ⟨hp, by omega, hz⟩
      · cases h
    · rw [leastN, if_pos e] at h
      obtain ⟨h1, h2, h3⟩ := ih h
      exact ⟨h1, by omega, h3⟩
theorem manyN_succ (p : Nat → Bool) (n : Nat) : manyN p (n + 1) = manyN p n + if p n then 1 else 0 := by
  unfold manyN
  rw [List.range_succ, List.filter_append]
  by_cases h : p n <;> simp [h]
theorem manyN_le (p : Nat → Bool) (n : Nat) : manyN p n ≤ n := by
  have := List.length_filter_le p (List.range n)
  simpa [manyN] using this

/-- Where a text begins in another one. -/
def begsP (l p : List UInt8) (i : Nat) : Bool := !p.isEmpty && Lib.hasPrefix (l.drop i) p
def inP (l set : List UInt8) (i : Nat) : Bool := set.contains (l.getD i 0)
def notP (f : Nat → Bool) (i : Nat) : Bool := !f i

/-! ### Items that are replaced, repeated, turned round -/

def trF (k : Int) (l to from' : List UInt8) (j : Nat) : UInt8 := if from'.contains (getF k l j) then getF k to (from'.idxOf (getF k l j)) else getF k l j
def trL (k : Int) (l to from' : List UInt8) : List UInt8 := tellL l.length (trF k l to from')
def timesL (l : List UInt8) (n : Nat) : List UInt8 := tellL (l.length * n) (fun i => l.getD (i % l.length) 0)
theorem timesL_zero (l : List UInt8) : timesL l 0 = [] := rfl
theorem timesL_nil (n : Nat) : timesL [] n = [] := by simp [timesL, tellL]
theorem timesL_succ (l : List UInt8) (n : Nat) : timesL l (n + 1) = timesL l n ++ l := by
  symm
  unfold timesL
  apply tell_eq
  · simp [tellL_len, Nat.mul_add]
  · intro i hi
    simp [tellL_len] at hi
    by_cases h : i < l.length * n
    · rw [List.getElem_append_left (by rw [tellL_len]; exact h), tellL_get]
    · rw [List.getElem_append_right (by rw [tellL_len]; omega)]
      have e : i % l.length = i - l.length * n := by
        have : i = (i - l.length * n) + l.length * n := by omega
        rw [this, Nat.add_mul_mod_self_left, Nat.mod_eq_of_lt (by omega)]
        omega
      simp only [e, tellL_len]
      simp [List.getD, List.getElem?_eq_getElem (show i - l.length * n < l.length by omega)]

def dropB : List UInt8 → List UInt8
  | [] => []
  | c :: r => if c = 32 then dropB r else c :: r
def trimL (l : List UInt8) : List UInt8 := (dropB (dropB l.reverse).reverse)

/-! ### Logic -/

def bitF (t : List UInt8) (x y : UInt8) : UInt8 := t.getD (2 * (x.toNat - 48) + (y.toNat - 48)) 0
def boolL (a b t : List UInt8) : List UInt8 := tellL (max a.length b.length) (fun i => bitF t (getF 5 a i) (getF 5 b i))
def notL (a : List UInt8) : List UInt8 := tellL a.length (fun i => if getF 5 a i = 48 then 49 else 48)
def okTab (t : List UInt8) : Bool := decide (t.length = 4) && t.all (okC 5)

/-! ### Order -/

def cmpB (x y : UInt8) : Int := if x.toNat < y.toNat then -1 else if y.toNat < x.toNat then 1 else 0
def cmpTo (f g : Nat → UInt8) : Nat → Int
  | 0 => 0
  | n + 1 => if cmpTo f g n ≠ 0 then cmpTo f g n else cmpB (f n) (g n)
def cmpL (k : Int) (a b : List UInt8) : Int := cmpTo (getF k a) (getF k b) (max a.length b.length)
theorem cmpTo_zero {f g : Nat → UInt8} {n : Nat} (h : ∀ i, i < n → f i = g i) : cmpTo f g n = 0 := by
  induction n with
  | zero => rfl
  | succ n ih => simp [cmpTo, ih (fun i hi => h i (by omega)), h n (by omega), cmpB]
theorem cmpTo_at {f g : Nat → UInt8} {k : Nat} (h : ∀ i, i < k → f i = g i) (hk : cmpB (f k) (g k) ≠ 0) : ∀ n, k < n → cmpTo f g n = cmpB (f k) (g k) := by
  intro n hn
  induction n with
  | zero => omega
  | succ n ih =>
    by_cases e : k = n
    · subst e
      simp [cmpTo, cmpTo_zero h]
    · simp [cmpTo, ih (by omega), hk]
end Go.Proofs.YtafhboppojeafaaGreatDoor
namespace Go.Proofs.YtafhboppojeafaaGreatDoor

/-! ### P5.6: fitted twice, turned round twice -/

theorem fitL_ok {k : Int} {l : List UInt8} {n : Nat} {vy : Bool} (h : okT k l = true) (hn : n ≤ 250) : okT k (fitL k l n vy) = true := by
  refine okT_mk (okT_kind h) ?_ (tellL_mem fun i _ => getF_ok (okT_kind h) (okT_all h) i)
  have := okT_len h
  unfold fitL; rw [tellL_len]; split <;> omega
theorem fitL_len (k : Int) (l : List UInt8) (n : Nat) (vy : Bool) : (fitL k l n vy).length = if vy then min l.length n else n := tellL_len _ _
theorem fitC_fit (k : Int) (l : List UInt8) (n : Nat) (vy : Bool) : fitC (fitL k l n vy) n = 0 := by
  unfold fitC
  rw [fitL_len, if_neg (by split <;> omega)]
theorem fitL_fit (k : Int) (l : List UInt8) (n : Nat) (vy : Bool) : fitL k (fitL k l n vy) n vy = fitL k l n vy := by
  have e : (if vy then min (fitL k l n vy).length n else n) = (fitL k l n vy).length := by
    rw [fitL_len]; split <;> omega
  rw [fitL, e, fit_self]

/-! ### P5.2: parts -/

theorem subL_get (l : List UInt8) (i n : Int) (j : Nat) (h : j < (subL l i n).length) : (subL l i n)[j] = l.getD (begN l i + j) 0 := by
  have h2 : begN l i + j < l.length := by
    have := endN_le l i n
    simp [subL] at h; omega
  simp [subL, List.getD, List.getElem?_eq_getElem h2]
theorem subL_len (l : List UInt8) (i n : Int) : (subL l i n).length = endN l i n - begN l i := by
  have := endN_le l i n
  simp [subL]; omega
theorem setL_len (k : Int) (l : List UInt8) (i n : Int) (v : List UInt8) : (setL k l i n v).length = l.length := tellL_len _ _
theorem setL_get (k : Int) (l : List UInt8) (i n : Int) (v : List UInt8) (j : Nat) (h : j < (setL k l i n v).length) : (setL k l i n v)[j] = setF k l i n v j := tellL_get _ _ _ h
theorem setL_ok {k : Int} {l v : List UInt8} {i n : Int} (h : okT k l = true) (hv : okT k v = true) : okT k (setL k l i n v) = true := by
  refine okT_mk (okT_kind h) (by rw [setL_len]; exact okT_len h) (tellL_mem fun j _ => ?_)
  unfold setF; split
  · exact getF_ok (okT_kind h) (okT_all hv) _
  · exact getF_ok (okT_kind h) (okT_all h) _
theorem partC_zero {l : List UInt8} {i n : Int} (h : partC l i n = 0) : 1 ≤ i ∧ 0 ≤ n ∧ i + n - 1 ≤ l.length := by
  unfold partC at h; split at h
  · assumption
  · cases h
theorem partC_of {l : List UInt8} {i n : Int} (h : 1 ≤ i ∧ 0 ≤ n ∧ i + n - 1 ≤ l.length) : partC l i n = 0 := if_pos h
/-- A right part's ends. -/
theorem ends_right {l : List UInt8} {i n : Int} (h : partC l i n = 0) : begN l i = (i - 1).toNat ∧ endN l i n = (i - 1).toNat + n.toNat := by
  have := partC_zero h
  unfold endN begN clampN; omega
theorem sub_set {k : Int} {l v : List UInt8} {i n : Int} (h : partC l i n = 0) : subL (setL k l i n v) i n = fitL k v n.toNat false := by
  have hp := partC_zero h
  have h2 : partC (setL k l i n v) i n = 0 := partC_of (by rw [setL_len]; exact hp)
  have e := ends_right h2
  apply tell_eq
  · rw [subL_len, e.1, e.2]; simp
  · intro j hj
    have hj' : j < n.toNat := by rw [subL_len, e.1, e.2] at hj; omega
    rw [subL_get, e.1]
    have hlt : (i - 1).toNat + j < (setL k l i n v).length := by rw [setL_len]; omega
    rw [List.getD, List.getElem?_eq_getElem hlt, Option.getD_some, setL_get, setF, if_pos (by omega)]
    congr 1
    omega
theorem set_before {k : Int} {l v : List UInt8} {i n : Int} (h : partC l i n = 0) : (setL k l i n v).take (i - 1).toNat = l.take (i - 1).toNat := by
  have hp := partC_zero h
  apply List.ext_getElem
  · simp [setL_len]
  · intro j h1 h2
    simp [setL_len] at h1 h2
    rw [List.getElem_take, List.getElem_take]
    rw [setL_get, setF, if_neg (by omega), getF_lt (by omega)]
theorem set_behind {k : Int} {l v : List UInt8} {i n : Int} (h : partC l i n = 0) : (setL k l i n v).drop ((i - 1).toNat + n.toNat) = l.drop ((i - 1).toNat + n.toNat) := by
  have hp := partC_zero h
  apply List.ext_getElem
  · simp [setL_len]
  · intro j h1 h2
    simp [setL_len] at h1 h2
    rw [List.getElem_drop, List.getElem_drop]
    rw [setL_get, setF, if_neg (by omega), getF_lt (by omega)]

/-! ### P5.3: what is found -/

theorem hasPrefix_iff (s p : List UInt8) : Lib.hasPrefix s p = true ↔ p <+: s := by
  rw [← Lib.hasPrefix_of_take]
  simp only [Bool.and_eq_true, decide_eq_true_eq, beq_iff_eq]
  constructor
  · rintro ⟨_, h⟩; exact ⟨s.drop p.length, by conv => lhs; lhs; rw [← h]
                                              exact List.take_append_drop _ _⟩
  · rintro ⟨t, rfl⟩; simp
theorem index_len {l p : List UInt8} {a : Nat} (h : leastN (begsP l p) l.length = a + 1) : a + p.length ≤ l.length ∧ 0 < p.length ∧ (l.drop a).take p.length = p := by
  obtain ⟨h1, h2, _⟩ := leastN_spec h
  simp only [begsP, Bool.and_eq_true, Bool.not_eq_true', hasPrefix_iff] at h1
  obtain ⟨hp, t, ht⟩ := h1
  have hl := congrArg List.length ht
  simp at hl
  have hp' : 0 < p.length := by
    cases p with
    | nil => simp at hp
    | cons c r => simp
  refine ⟨by omega, hp', ?_⟩
  rw [← ht]; simp
theorem index_sub {l p : List UInt8} {a : Nat} (h : leastN (begsP l p) l.length = a + 1) : subL l (a + 1) p.length = p ∧ partC l (a + 1) p.length = 0 := by
  obtain ⟨h1, h2, h3⟩ := index_len h
  have hc : partC l ((a : Int) + 1) p.length = 0 := partC_of (by omega)
  refine ⟨?_, hc⟩
  have e := ends_right hc
  unfold subL
  rw [e.1, e.2, show ((a : Int) + 1 - 1).toNat = a by omega, Int.toNat_natCast, List.drop_take]
  rw [show a + p.length - a = p.length by omega]
  exact h3
theorem begs_take {l p : List UInt8} {i m : Nat} (h : begsP (l.take m) p i = true) : begsP l p i = true ∧ i + p.length ≤ m := by
  simp only [begsP, Bool.and_eq_true, Bool.not_eq_true', hasPrefix_iff] at h ⊢
  obtain ⟨hp, t, ht⟩ := h
  have hl := congrArg List.length ht
  simp at hl
  refine ⟨⟨hp, t ++ (l.drop m).drop (i - m), ?_⟩, ?_⟩
  · rw [← List.append_assoc, ht, List.drop_take]
    have : (l.drop m).drop (i - m) = (l.drop i).drop (m - i) := by
      rw [List.drop_drop, List.drop_drop]
      have hp' : 0 < p.length := by
        cases p with
        | nil => simp at hp
        | cons c r => simp
      congr 1; omega
    rw [this, List.take_append_drop]
  · have hp' : 0 < p.length := by
      cases p with
      | nil => simp at hp
      | cons c r => simp
    omega
theorem index_before {l p : List UInt8} {a : Nat} (h : leastN (begsP l p) l.length = a + 1) : leastN (begsP (subL l 1 ((a : Int) + 1 + p.length - 2)) p) (subL l 1 ((a : Int) + 1 + p.length - 2)).length = 0 := by
  obtain ⟨h1, h2, h3⟩ := index_len h
  obtain ⟨_, _, h4⟩ := leastN_spec h
  have hs : subL l 1 ((a : Int) + 1 + p.length - 2) = l.take (a + p.length - 1) := by
    have hc : partC l 1 ((a : Int) + 1 + p.length - 2) = 0 := partC_of (by omega)
    have e := ends_right hc
    unfold subL
    rw [e.1, e.2, show ((1 : Int) - 1).toNat = 0 by omega, List.drop_zero]
    congr 1; omega
  rw [hs]
  apply leastN_zero
  intro i hi
  cases hb : begsP (l.take (a + p.length - 1)) p i with
  | false => rfl
  | true =>
    obtain ⟨h5, h6⟩ := begs_take hb
    have := h4 i (by omega)
    rw [h5] at this; cases this
theorem subL_ok {k : Int} {l : List UInt8} {i n : Int} (h : okT k l = true) : okT k (subL l i n) = true := by
  refine okT_mk (okT_kind h) ?_ fun c hc => okT_all h c ?_
  · have := okT_len h; have := endN_le l i n; rw [subL_len]; omega
  · unfold subL at hc; exact List.mem_of_mem_take (List.mem_of_mem_drop hc)

/-! ### Joined, turned -/

theorem append_ok {k : Int} {a b : List UInt8} (ha : okT k a = true) (hb : okT k b = true) (hl : a.length + b.length ≤ 250) : okT k (a ++ b) = true := by
  refine okT_mk (okT_kind ha) (by simpa using hl) fun c hc => ?_
  rcases List.mem_append.1 hc with h | h
  · exact okT_all ha c h
  · exact okT_all hb c h
theorem reverse_ok {k : Int} {a : List UInt8} (ha : okT k a = true) : okT k a.reverse = true :=
  okT_mk (okT_kind ha) (by simpa using okT_len ha) fun c hc => okT_all ha c (by simpa using hc)
theorem join_left (a b : List UInt8) : subL (a ++ b) 1 a.length = a ∧ partC (a ++ b) 1 a.length = 0 := by
  have hc : partC (a ++ b) 1 a.length = 0 := partC_of (by simp; omega)
  have e := ends_right hc
  refine ⟨?_, hc⟩
  unfold subL
  rw [e.1, e.2]; simp
/-- The part from a place on. -/
def restN (l : List UInt8) (i : Int) : Int := l.length - i + 1
theorem join_right (a b : List UInt8) : subL (a ++ b) (a.length + 1) (restN (a ++ b) (a.length + 1)) = b ∧ partC (a ++ b) (a.length + 1) (restN (a ++ b) (a.length + 1)) = 0 := by
  have hc : partC (a ++ b) (a.length + 1) (restN (a ++ b) (a.length + 1)) = 0 := partC_of (by unfold restN; simp; omega)
  have e := ends_right hc
  refine ⟨?_, hc⟩
  unfold subL
  rw [e.1, e.2, List.take_of_length_le (by unfold restN; simp; omega)]
  simp

/-! ### P5.4: logic -/

theorem bit_of {c : UInt8} (h : okC 5 c = true) : c = 48 ∨ c = 49 := by
  simp only [okC, fillC, topC, if_true, Bool.and_eq_true, decide_eq_true_eq] at h
  have h1 : (48 : UInt8).toNat = 48 := rfl
  have h2 : (49 : UInt8).toNat = 49 := rfl
  rw [h1, h2] at h
  have : c.toNat = 48 ∨ c.toNat = 49 := by omega
  rcases this with e | e
  · left; exact UInt8.toNat_inj.1 (by rw [e, h1])
  · right; exact UInt8.toNat_inj.1 (by rw [e, h2])
def tabAnd : List UInt8 := [48, 48, 48, 49]
def tabOr : List UInt8 := [48, 49, 49, 49]
def tabXor : List UInt8 := [48, 49, 49, 48]
def tabNot : List UInt8 := [49, 48, 48, 48]
theorem boolL_len (a b t : List UInt8) : (boolL a b t).length = max a.length b.length := tellL_len _ _
theorem notL_len (a : List UInt8) : (notL a).length = a.length := tellL_len _ _
theorem bits_all {a : List UInt8} (h : okT 5 a = true) (i : Nat) : getF 5 a i = 48 ∨ getF 5 a i = 49 := bit_of (getF_ok (.inr rfl) (okT_all h) i)
theorem notL_ok {a : List UInt8} (h : okT 5 a = true) : okT 5 (notL a) = true := by
  refine okT_mk (.inr rfl) (by rw [notL_len]; exact okT_len h) (tellL_mem fun i _ => ?_)
  split <;> decide
theorem bitF_ok {t : List UInt8} (ht : okTab t = true) {x y : UInt8} (hx : x = 48 ∨ x = 49) (hy : y = 48 ∨ y = 49) : okC 5 (bitF t x y) = true := by
  simp only [okTab, Bool.and_eq_true, decide_eq_true_eq, List.all_eq_true] at ht
  obtain ⟨hl, ha⟩ := ht
  have key : ∀ j, j < 4 → okC 5 (t.getD j 0) = true := by
    intro j hj
    rw [List.getD, List.getElem?_eq_getElem (by omega), Option.getD_some]
    exact ha _ (List.getElem_mem _)
  unfold bitF
  rcases hx with rfl | rfl <;> rcases hy with rfl | rfl <;> exact key _ (by decide)
theorem boolL_ok {a b t : List UInt8} (ha : okT 5 a = true) (hb : okT 5 b = true) (ht : okTab t = true) : okT 5 (boolL a b t) = true := by
  refine okT_mk (.inr rfl) (by rw [boolL_len]; have := okT_len ha; have := okT_len hb; omega) (tellL_mem fun i _ => ?_)
  exact bitF_ok ht (bits_all ha i) (bits_all hb i)
theorem tell_getF (k : Int) (n : Nat) (f : Nat → UInt8) (i : Nat) (h : i < n) : getF k (tellL n f) i = f i := by
  rw [getF_lt (by rw [tellL_len]; exact h), tellL_get]
/-- Not of And is Or of Nots. -/
theorem morgan {a b : List UInt8} (ha : okT 5 a = true) (hb : okT 5 b = true) (hl : a.length = b.length) : notL (boolL a b tabAnd) = boolL (notL a) (notL b) tabOr := by
  have e1 : (boolL a b tabAnd).length = a.length := by rw [boolL_len]; omega
  have e2 : max (notL a).length (notL b).length = a.length := by rw [notL_len, notL_len]; omega
  rw [notL, e1]
  unfold boolL
  rw [e2]
  apply tellL_congr
  intro i hi
  have ea : getF 5 (notL a) i = if getF 5 a i = 48 then 49 else 48 := tell_getF 5 _ _ i hi
  have eb : getF 5 (notL b) i = if getF 5 b i = 48 then 49 else 48 := tell_getF 5 _ _ i (by omega)
  rw [tell_getF 5 _ _ i (by omega), ea, eb]
  rcases bits_all ha i with h1 | h1 <;> rcases bits_all hb i with h2 | h2 <;> rw [h1, h2] <;> decide
theorem not_bool {a : List UInt8} (ha : okT 5 a = true) : boolL a a tabNot = notL a := by
  unfold boolL notL
  rw [Nat.max_self]
  apply tellL_congr
  intro i _
  rcases bits_all ha i with h1 | h1 <;> rw [h1] <;> decide

/-! ### P5.5: an order -/

theorem cmpB_neg (x y : UInt8) : cmpB y x = - cmpB x y := by
  unfold cmpB
  split <;> split <;> first | omega | (split <;> omega) | skip
theorem cmpB_zero {x y : UInt8} (h : cmpB x y = 0) : x = y := by
  unfold cmpB at h
  split at h
  · cases h
  · split at h
    · cases h
    · exact UInt8.toNat_inj.1 (by omega)
theorem cmpTo_neg (f g : Nat → UInt8) (n : Nat) : cmpTo g f n = - cmpTo f g n := by
  induction n with
  | zero => rfl
  | succ n ih =>
    unfold cmpTo
    rw [ih]
    by_cases h : cmpTo f g n = 0
    · rw [h, if_neg (by decide), if_neg (by decide), cmpB_neg]
    · rw [if_pos h, if_pos (by omega)]
theorem cmpL_neg (k : Int) (a b : List UInt8) : cmpL k b a = - cmpL k a b := by
  unfold cmpL; rw [Nat.max_comm, cmpTo_neg]
theorem cmpTo_more {f g : Nat → UInt8} {n : Nat} (h : ∀ i, n ≤ i → f i = g i) (m : Nat) (hm : n ≤ m) : cmpTo f g m = cmpTo f g n := by
  induction m with
  | zero => obtain rfl : n = 0 := by omega
            rfl
  | succ m ih =>
    by_cases e : n = m + 1
    · rw [e]
    · rw [cmpTo, ih (by omega), h m (by omega)]
      by_cases hc : cmpTo f g n = 0
      · rw [hc]; simp [cmpB]
      · rw [if_pos hc]
theorem cmpL_more (k : Int) (a b : List UInt8) (m : Nat) (h : max a.length b.length ≤ m) : cmpTo (getF k a) (getF k b) m = cmpL k a b :=
  cmpTo_more (fun i hi => by rw [getF_ge (by omega), getF_ge (by omega)]) m h
theorem cmpTo_eq {f g : Nat → UInt8} {n : Nat} (h : cmpTo f g n = 0) : ∀ i, i < n → f i = g i := by
  induction n with
  | zero => intro i hi; omega
  | succ n ih =>
    rw [cmpTo] at h
    by_cases hc : cmpTo f g n = 0
    · rw [if_neg (by simpa using hc)] at h
      intro i hi
      by_cases e : i = n
      · subst e; exact cmpB_zero h
      · exact ih hc i (by omega)
    · rw [if_pos hc] at h; exact absurd h hc
theorem cmpB_trans {x y z : UInt8} (h1 : cmpB x y ≤ 0) (h2 : cmpB y z ≤ 0) : cmpB x z ≤ 0 ∧ (cmpB x z = 0 → cmpB x y = 0 ∧ cmpB y z = 0) := by
  unfold cmpB at *
  repeat' split at h1
  all_goals repeat' split at h2
  all_goals first | omega | skip
  all_goals constructor
  all_goals repeat' split
  all_goals first | omega | (intro h; repeat' split at h) | skip
  all_goals omega
theorem cmpTo_trans (f g h : Nat → UInt8) (n : Nat) (h1 : cmpTo f g n ≤ 0) (h2 : cmpTo g h n ≤ 0) : cmpTo f h n ≤ 0 ∧ (cmpTo f h n = 0 → cmpTo f g n = 0 ∧ cmpTo g h n = 0) := by
  induction n with
  | zero => exact ⟨Int.le_refl _, fun _ => ⟨rfl, rfl⟩⟩
  | succ n ih =>
    rw [cmpTo] at h1 h2 ⊢
    by_cases a : cmpTo f g n = 0
    · by_cases b : cmpTo g h n = 0
      · have hz : cmpTo f h n = 0 := cmpTo_zero fun i hi => (cmpTo_eq a i hi).trans (cmpTo_eq b i hi)
        rw [if_neg (by simpa using a)] at h1
        rw [if_neg (by simpa using b)] at h2
        rw [if_neg (by simpa using hz), cmpTo, if_neg (by simpa using a), cmpTo, if_neg (by simpa using b)]
        exact cmpB_trans h1 h2
      · rw [if_pos b] at h2
        have hx := ih (by omega) h2
        have hz : cmpTo f h n ≠ 0 := fun e => b (hx.2 e).2
        rw [if_pos hz]
        exact ⟨hx.1, fun e => absurd e hz⟩
    · rw [if_pos a] at h1
      by_cases b : cmpTo g h n = 0
      · have hx := ih h1 (by omega)
        have hz : cmpTo f h n ≠ 0 := fun e => a (hx.2 e).1
        rw [if_pos hz]
        exact ⟨hx.1, fun e => absurd e hz⟩
      · rw [if_pos b] at h2
        have hx := ih h1 h2
        have hz : cmpTo f h n ≠ 0 := fun e => a (hx.2 e).1
        rw [if_pos hz]
        exact ⟨hx.1, fun e => absurd e hz⟩
theorem cmpL_trans (k : Int) (a b c : List UInt8) (h1 : cmpL k a b ≤ 0) (h2 : cmpL k b c ≤ 0) : cmpL k a c ≤ 0 := by
  have e1 := cmpL_more k a b (max a.length (max b.length c.length)) (by omega)
  have e2 := cmpL_more k b c (max a.length (max b.length c.length)) (by omega)
  have e3 := cmpL_more k a c (max a.length (max b.length c.length)) (by omega)
  rw [← e1] at h1; rw [← e2] at h2; rw [← e3]
  exact (cmpTo_trans _ _ _ _ h1 h2).1
theorem cmpL_trans' (k : Int) (a b c : List UInt8) (h1 : 0 ≤ cmpL k a b) (h2 : 0 ≤ cmpL k b c) : 0 ≤ cmpL k a c := by
  have e1 := cmpL_neg k a b
  have e2 := cmpL_neg k b c
  have e3 := cmpL_neg k a c
  have := cmpL_trans k c b a (by omega) (by omega)
  omega
theorem cmpTo_abs (f g : Nat → UInt8) (n : Nat) : -1 ≤ cmpTo f g n ∧ cmpTo f g n ≤ 1 := by
  induction n with
  | zero => exact ⟨by unfold cmpTo; omega, by unfold cmpTo; omega⟩
  | succ n ih =>
    unfold cmpTo; split
    · exact ih
    · unfold cmpB; split
      · omega
      · split <;> omega
theorem cmpL_abs (k : Int) (a b : List UInt8) : -1 ≤ cmpL k a b ∧ cmpL k a b ≤ 1 := cmpTo_abs _ _ _
end Go.Proofs.YtafhboppojeafaaGreatDoor
namespace Go.Proofs.YtafhboppojeafaaGreatDoor
open Go.RowKit

/-- A struct of type api.Value; a part; a string that is told with its condition. -/
abbrev vlV (k n q : Int) (s : ByteArray) : Value := .agg #[.int .i64 k, .int .i64 n, .int .i64 q, .string s]
abbrev bsz (l : List UInt8) : ByteArray := ⟨l.toArray⟩
theorem bsz_size (l : List UInt8) : (bsz l).size = l.length := rfl
theorem lsz (s : ByteArray) : s.data.toList.length = s.size := by rw [Lib.size_eq]
theorem take_snoc (s : ByteArray) (k : Nat) (h : k < s.size) : s.data.toList.take (k + 1) = s.data.toList.take k ++ [s[k]] := by
  rw [List.take_succ_eq_append_getElem (by simpa using h)]; rfl
theorem get_mem (s : ByteArray) (k : Nat) (h : k < s.size) : s[k] ∈ s.data.toList := by
  have := take_snoc s k h
  exact List.mem_of_mem_take (i := k + 1) (by rw [this]; simp)
theorem below_boxed {w w1 : World} {o : Obj} (h : Below (w.heap.size + 1) (w.alloc o) w1) : Below w.heap.size w w1 :=
  ((Below.refl _ w).alloc (Nat.le_refl _) o).trans (h.mono (by simp))
theorem all_snoc {l l' : List UInt8} {c : UInt8} {f : UInt8 → Bool} (e : l' = l ++ [c]) (h : l.all f = true) (hc : f c = true) : l'.all f = true := by
  rw [e, List.all_append, h]; simp [hc]
theorem bsz_list (s : ByteArray) : bsz s.data.toList = s := rfl

/-- What is below stays so, call by call. -/
theorem bl_then {w w1 w2 : World} (h1 : Below w.heap.size w w1) (h2 : Below w1.heap.size w1 w2) : Below w.heap.size w w2 := h1.trans (h2.mono h1.size)
theorem bl_box {w w1 w2 : World} {o : Obj} (h1 : Below w.heap.size w w1) (h2 : Below (w1.alloc o).heap.size (w1.alloc o) w2) : Below w.heap.size w w2 := bl_then (h1.alloc h1.size o) h2
theorem bl_box2 {w w1 w2 : World} {o o' : Obj} (h1 : Below w.heap.size w w1) (h2 : Below ((w1.alloc o).alloc o').heap.size ((w1.alloc o).alloc o') w2) : Below w.heap.size w w2 := bl_box (h1.alloc h1.size o) h2
theorem bl_box3 {w w1 w2 : World} {o o' o'' : Obj} (h1 : Below w.heap.size w w1) (h2 : Below (((w1.alloc o).alloc o').alloc o'').heap.size (((w1.alloc o).alloc o').alloc o'') w2) : Below w.heap.size w w2 := bl_box2 (h1.alloc h1.size o) h2

/-- A block of cells, whole. -/
def Row (w : World) (b : Nat) (cs : Array Value) (t : TypeId) : Prop := w.heap[b]? = some (.cells cs t (0, 0))
theorem Row.at {w : World} {b : Nat} {cs : Array Value} {t : TypeId} (h : Row w b cs t) (j : Nat) : w.cell? ⟨b, j, none⟩ = cs[j]? := cell_of_row w b j _ _ _ h
theorem Row.free {w : World} {b : Nat} {cs : Array Value} {t : TypeId} (h : Row w b cs t) (j : Nat) : w.frozen? ⟨b, j, none⟩ = false := by
  have h' : w.heap[b]? = _ := h
  simp [World.frozen?, h']
theorem Row.lt {w : World} {b : Nat} {cs : Array Value} {t : TypeId} (h : Row w b cs t) : b < w.heap.size := (Array.getElem?_eq_some_iff.1 h).1
theorem Row.keep {w w' : World} {b : Nat} {cs : Array Value} {t : TypeId} (h : Row w b cs t) (hB : Below w.heap.size w w') : Row w' b cs t := (hB.block b h.lt).trans h
theorem Row.new (w : World) (cs : Array Value) (t : TypeId) : Row (w.alloc (.cells cs t)) w.heap.size cs t := heap_alloc_last w _
theorem Row.alloc {w : World} {b : Nat} {cs : Array Value} {t : TypeId} (h : Row w b cs t) (o : Obj) : Row (w.alloc o) b cs t := by
  unfold Row; rw [Go.heap_alloc_old _ _ h.lt]; exact h
theorem Row.drewN {w : World} {b : Nat} {cs : Array Value} {t : TypeId} (h : Row w b cs t) (n : Nat) : Row (w.drewN n) b cs t := h
theorem Row.set {w : World} {b : Nat} {cs : Array Value} {t : TypeId} {a : Addr} {v : Value} (h : Row w b cs t) (hne : a.block ≠ b) : Row (w.setCell a v) b cs t := by
  have h' : w.heap[b]? = _ := h
  unfold Row World.setCell
  simp [Array.getElem?_modify, h', hne]
theorem Row.new2 (w : World) (o : Obj) (cs : Array Value) (t : TypeId) : Row ((w.alloc o).alloc (.cells cs t)) (w.heap.size + 1) cs t := by
  have := Row.new (w.alloc o) cs t
  rwa [World.size_alloc] at this
theorem Row.new3 (w : World) (o o' : Obj) (cs : Array Value) (t : TypeId) : Row (((w.alloc o).alloc o').alloc (.cells cs t)) (w.heap.size + 1 + 1) cs t := by
  have := Row.new ((w.alloc o).alloc o') cs t
  rwa [World.size_alloc, World.size_alloc] at this
theorem Row.one {w : World} {b : Nat} {a0 : Value} {t : TypeId} (h : Row w b #[a0] t) : w.cell? ⟨b, 0, none⟩ = some a0 := h.at 0
theorem Row.two {w : World} {b : Nat} {a0 a1 : Value} {t : TypeId} (h : Row w b #[a0, a1] t) : w.cell? ⟨b, 0, none⟩ = some a0 ∧ w.cell? ⟨b, 1, none⟩ = some a1 := ⟨h.at 0, h.at 1⟩
theorem Row.four {w : World} {b : Nat} {a0 a1 a2 a3 : Value} {t : TypeId} (h : Row w b #[a0, a1, a2, a3] t) :
    w.cell? ⟨b, 0, none⟩ = some a0 ∧ w.cell? ⟨b, 1, none⟩ = some a1 ∧ w.cell? ⟨b, 2, none⟩ = some a2 ∧ w.cell? ⟨b, 3, none⟩ = some a3 := ⟨h.at 0, h.at 1, h.at 2, h.at 3⟩
theorem Row.five {w : World} {b : Nat} {a0 a1 a2 a3 a4 : Value} {t : TypeId} (h : Row w b #[a0, a1, a2, a3, a4] t) :
    w.cell? ⟨b, 0, none⟩ = some a0 ∧ w.cell? ⟨b, 1, none⟩ = some a1 ∧ w.cell? ⟨b, 2, none⟩ = some a2 ∧ w.cell? ⟨b, 3, none⟩ = some a3 ∧ w.cell? ⟨b, 4, none⟩ = some a4 := ⟨h.at 0, h.at 1, h.at 2, h.at 3, h.at 4⟩
theorem Row.six {w : World} {b : Nat} {a0 a1 a2 a3 a4 a5 : Value} {t : TypeId} (h : Row w b #[a0, a1, a2, a3, a4, a5] t) :
    w.cell? ⟨b, 0, none⟩ = some a0 ∧ w.cell? ⟨b, 1, none⟩ = some a1 ∧ w.cell? ⟨b, 2, none⟩ = some a2 ∧ w.cell? ⟨b, 3, none⟩ = some a3 ∧ w.cell? ⟨b, 4, none⟩ = some a4 ∧ w.cell? ⟨b, 5, none⟩ = some a5 := ⟨h.at 0, h.at 1, h.at 2, h.at 3, h.at 4, h.at 5⟩

end Go.Proofs.YtafhboppojeafaaGreatDoor
namespace Go.Proofs.YtafhboppojeafaaGreatDoor
open Go.RowKit

theorem bl_drew {w w' : World} (h : Below w.drew.heap.size w.drew w') : Below w.heap.size w w' := below_then ((Below.refl _ _).drew) h (by simp)
theorem bl_dbox {w w' : World} {o : Obj} (h : Below (w.alloc o).drew.heap.size (w.alloc o).drew w') : Below (w.alloc o).heap.size (w.alloc o) w' := bl_drew h
theorem Row.drew {w : World} {b : Nat} {cs : Array Value} {t : TypeId} (h : Row w b cs t) : Row w.drew b cs t := h
theorem Row.newd (w : World) (cs : Array Value) (t : TypeId) : Row (w.alloc (.cells cs t)).drew w.heap.size cs t := heap_alloc_last w _
theorem bl_dN {B : Nat} {w w' : World} (h : Below B w w') (n : Nat) : Below B w (w'.drewN n) := below_drewN h n
end Go.Proofs.YtafhboppojeafaaGreatDoor
