/- The texts of types as lists of bytes, and what reading them gives: no program in this text. -/
import Derived.Lib.AtoiAll
import Derived.Lib.ItoaMem
import Derived.Lib.IndexMore
import Derived.Lib.Replace
import Derived.Lib.Strings
namespace Go.Proofs.YtcekphfmpjdbmaaGreatDoor

def wBin : List UInt8 := [70, 73, 88, 69, 68, 32, 66, 73, 78]
def wDec : List UInt8 := [70, 73, 88, 69, 68, 32, 68, 69, 67]
def wFlo : List UInt8 := [70, 76, 79, 65, 84, 32, 68, 69, 67]
def wCha : List UInt8 := [67, 72, 65, 82]
def wBit : List UInt8 := [66, 73, 84]
def wPic : List UInt8 := [80, 73, 67]
def wPtr : List UInt8 := [80, 84, 82]
def wLab : List UInt8 := [76, 65, 66, 69, 76]
def wEnt : List UInt8 := [69, 78, 84, 82, 89]

/-- A number from 0 on, in parentheses, or two. -/
def one1 (n : Int) : List UInt8 := 40 :: (Lib.itoa n ++ [41])
def two2 (p q : Int) : List UInt8 := 40 :: (Lib.itoa p ++ 44 :: (Lib.itoa q ++ [41]))
def vary (vy : Bool) : List UInt8 := if vy then [32, 86, 65, 82] else []
def dbl : List UInt8 → List UInt8
  | [] => []
  | c :: r => if c = 39 then 39 :: 39 :: dbl r else c :: dbl r

/-- The text of a type. -/
def txt (k p q n : Int) (vy : Bool) (pic : List UInt8) : List UInt8 :=
  if k = 1 then wBin ++ two2 p q else if k = 2 then wDec ++ two2 p q else if k = 3 then wFlo ++ one1 p
  else if k = 4 then wCha ++ (one1 n ++ vary vy) else if k = 5 then wBit ++ (one1 n ++ vary vy)
  else if k = 6 then wPic ++ 39 :: (dbl pic ++ [39]) else if k = 7 then wPtr else if k = 8 then wLab else wEnt

/-! ### Numerals of at most three digits -/

def dch (d : Nat) : UInt8 := UInt8.ofNat (48 + d)
theorem digit_nat (d : Nat) (h : d < 10) : (dch d).toNat = 48 + d := by
  unfold dch; rw [UInt8.toNat_ofNat']; omega

theorem decDigits_three {i : Nat} (h1 : ¬ i < 100) (h2 : i < 1000) : Lib.decDigits i = [UInt8.ofNat (48 + i / 100), UInt8.ofNat (48 + i / 10 % 10), UInt8.ofNat (48 + i % 10)] := by
  rw [Lib.decDigits, dif_neg (by omega), Lib.decDigits_two (by omega) (by omega)]
  simp only [List.cons_append, List.nil_append]
  rw [show i / 10 / 10 = i / 100 by omega]

/-- A numeral: one digit to three, each from '0' to '9'. -/
inductive Num3 : Nat → List UInt8 → Prop where
  | one (a : Nat) : a < 10 → Num3 a [dch a]
  | two (a b : Nat) : 0 < a → a < 10 → b < 10 → Num3 (10 * a + b) [dch a, dch b]
  | three (a b c : Nat) : 0 < a → a < 10 → b < 10 → c < 10 → Num3 (100 * a + 10 * b + c) [dch a, dch b, dch c]

theorem num3_dec (i : Nat) (h : i < 1000) : Num3 i (Lib.decDigits i) := by
  by_cases h1 : i < 10
  · rw [Lib.decDigits_one h1]; exact Num3.one i h1
  · by_cases h2 : i < 100
    · rw [Lib.decDigits_two h1 h2]
      have := Num3.two (i / 10) (i % 10) (by omega) (by omega) (by omega)
      rwa [show 10 * (i / 10) + i % 10 = i by omega] at this
    · rw [decDigits_three h2 h]
      have := Num3.three (i / 100) (i / 10 % 10) (i % 10) (by omega) (by omega) (by omega) (by omega)
      rwa [show 100 * (i / 100) + 10 * (i / 10 % 10) + i % 10 = i by omega] at this
theorem num3_itoa (n : Int) (h0 : 0 ≤ n) (h : n < 1000) : Num3 n.toNat (Lib.itoa n) := by
  obtain ⟨u, rfl⟩ := Int.eq_ofNat_of_zero_le h0
  rw [Lib.itoa_nonneg, Int.toNat_natCast]
  exact num3_dec u (by omega)

/-- What strconv.Atoi tells, 0 where it tells an error. -/
def numL (l : List UInt8) : Int := match Lib.atoiAll l with | .ok v => v | _ => 0

theorem atoi_digits {c : UInt8} {r : List UInt8} (h : ¬ (c.toNat = 43 ∨ c.toNat = 45)) (u : Nat) (hu : Lib.parseUint10 0 (c :: r) = .ok u) (hu' : u < 9223372036854775808) : numL (c :: r) = u := by
  have hn : ¬ c.toNat = 45 := fun e => h (.inr e)
  have e : Lib.atoiAll (c :: r) = .ok u := by
    unfold Lib.atoiAll
    simp only [if_neg h]
    unfold Lib.parseMag
    rw [if_neg (by simp), hu]
    simp only [hn, not_false_eq_true, true_and, false_and, if_false]
    rw [if_neg (by omega)]
  rw [numL, e]

theorem parse_step {acc d : Nat} (h : d < 10) (ha : acc < 1000) (r : List UInt8) : Lib.parseUint10 acc (dch d :: r) = Lib.parseUint10 (acc * 10 + d) r := by
  have e := digit_nat d h
  simp only [Lib.parseUint10, e]
  rw [if_pos (by omega), if_neg (by omega), if_neg (by omega), show 48 + d - 48 = d by omega]

theorem numL_num3 {n : Nat} {l : List UInt8} (h : Num3 n l) : numL l = n := by
  cases h with
  | one a h => 
    refine atoi_digits (by rw [digit_nat _ h]; omega) _ ?_ (by omega)
    rw [parse_step h (by omega)]; simp [Lib.parseUint10]
  | two a b h0 h h' =>
    refine atoi_digits (by rw [digit_nat _ h]; omega) _ ?_ (by omega)
    rw [parse_step h (by omega), parse_step h' (by omega)]; simp [Lib.parseUint10]; omega
  | three a b c h0 h h' h'' =>
    refine atoi_digits (by rw [digit_nat _ h]; omega) _ ?_ (by omega)
    rw [parse_step h (by omega), parse_step h' (by omega), parse_step h'' (by omega)]; simp [Lib.parseUint10]; omega
theorem numL_itoa (n : Int) (h0 : 0 ≤ n) (h : n < 1000) : numL (Lib.itoa n) = n := by
  rw [numL_num3 (num3_itoa n h0 h)]; omega

/-- The bytes of a numeral are digits. -/
def isDig (c : UInt8) : Bool := decide (48 ≤ c.toNat) && decide (c.toNat ≤ 57)
theorem isDig_ofNat (d : Nat) (h : d < 10) : isDig (dch d) = true := by
  unfold isDig; rw [digit_nat d h]; simp; omega
theorem num3_dig {n : Nat} {l : List UInt8} (h : Num3 n l) : ∀ c ∈ l, isDig c = true := by
  cases h <;> simp [isDig_ofNat, *]
theorem itoa_dig (n : Int) (h0 : 0 ≤ n) (h : n < 1000) : ∀ c ∈ Lib.itoa n, isDig c = true := num3_dig (num3_itoa n h0 h)
theorem itoa_ne (n : Int) (h0 : 0 ≤ n) (h : n < 1000) : Lib.itoa n ≠ [] := by
  have := num3_itoa n h0 h
  generalize Lib.itoa n = l at this
  generalize n.toNat = m at this
  cases this <;> simp

/-! ### The program's ways -/

def insideL (l : List UInt8) : List UInt8 := Lib.trimSuffix (Lib.trimPrefix l [40]) [41]
theorem trimPrefix_self (p x : List UInt8) : Lib.trimPrefix (p ++ x) p = x := by
  unfold Lib.trimPrefix Lib.hasPrefix
  rw [if_pos (by rw [List.isPrefixOf_iff_prefix]; exact List.prefix_append _ _), List.drop_left]
theorem trimSuffix_self (p x : List UInt8) : Lib.trimSuffix (x ++ p) p = x := by
  unfold Lib.trimSuffix Lib.hasSuffix
  rw [if_pos (by rw [List.isSuffixOf_iff_suffix]; exact List.suffix_append _ _), List.length_append, Nat.add_sub_cancel, List.take_left]
theorem inside_par (x : List UInt8) : insideL (40 :: (x ++ [41])) = x := by
  unfold insideL
  rw [show (40 :: (x ++ [41]) : List UInt8) = [40] ++ (x ++ [41]) from rfl, trimPrefix_self, trimSuffix_self]

theorem index_one (x y : List UInt8) (c : UInt8) (h : c ∉ x) : Lib.index (x ++ c :: y) [c] = (x.length : Int) := by
  induction x with
  | nil => simp [Lib.index]
  | cons a r ih =>
    have ha : ¬ c = a := fun e => h (by simp [e])
    have ih' := ih (fun hm => h (by simp [hm]))
    rw [List.cons_append, Lib.index]
    rw [ih']
    have e1 : ([c].isPrefixOf (a :: (r ++ c :: y))) = false := by simp [List.isPrefixOf, ha]
    rw [e1]
    have e2 : ((r.length : Int) == -1) = false := by rw [beq_eq_false_iff_ne]; omega
    simp [e2]
theorem cut_one (x y : List UInt8) (c : UInt8) (h : c ∉ x) : Lib.cut (x ++ c :: y) [c] = (x, y, true) := by
  unfold Lib.cut
  rw [index_one x y c h, if_pos (by omega)]
  simp

theorem no44 (n : Int) (h0 : 0 ≤ n) (h : n < 1000) : (44 : UInt8) ∉ Lib.itoa n := fun hm => by
  have := itoa_dig n h0 h 44 hm
  simp [isDig] at this

theorem fixed_back (p q : Int) (hp : 0 ≤ p) (hp' : p < 1000) (hq : 0 ≤ q) (hq' : q < 1000) :
    numL (Lib.cut (insideL (two2 p q)) [44]).1 = p ∧ numL (Lib.cut (insideL (two2 p q)) [44]).2.1 = q := by
  have e : two2 p q = 40 :: ((Lib.itoa p ++ 44 :: Lib.itoa q) ++ [41]) := by simp [two2]
  rw [e, inside_par, cut_one _ _ _ (no44 p hp hp')]
  exact ⟨numL_itoa p hp hp', numL_itoa q hq hq'⟩
theorem one_back (p : Int) (hp : 0 ≤ p) (hp' : p < 1000) : numL (insideL (one1 p)) = p := by
  unfold one1
  rw [inside_par]; exact numL_itoa p hp hp'

/-! ### Pictures -/

theorem dbl_skip (x y : List UInt8) (h : (39 : UInt8) ∉ x) : dbl (x ++ 39 :: y) = x ++ 39 :: 39 :: dbl y := by
  induction x with
  | nil => simp [dbl]
  | cons a r ih =>
    have ha : ¬ a = 39 := fun e => h (by simp [e])
    simp [dbl, ha, ih (fun hm => h (by simp [hm]))]
theorem dbl_none (x : List UInt8) (h : (39 : UInt8) ∉ x) : dbl x = x := by
  induction x with
  | nil => rfl
  | cons a r ih =>
    have ha : ¬ a = 39 := fun e => h (by simp [e])
    simp [dbl, ha, ih (fun hm => h (by simp [hm]))]
theorem split39 (s : List UInt8) : (39 : UInt8) ∉ s ∨ ∃ x y, s = x ++ 39 :: y ∧ (39 : UInt8) ∉ x := by
  induction s with
  | nil => left; simp
  | cons a r ih =>
    by_cases ha : a = 39
    · exact .inr ⟨[], r, by rw [ha]; rfl, by simp⟩
    · rcases ih with h | ⟨x, y, rfl, h⟩
      · left; simp [h, Ne.symm ha]
      · exact .inr ⟨a :: x, y, rfl, by simp [h, Ne.symm ha]⟩

theorem index_none1 (x : List UInt8) (c : UInt8) (t : List UInt8) (h : c ∉ x) : Lib.index x (c :: t) = -1 := by
  induction x with
  | nil => simp [Lib.index]
  | cons a r ih =>
    have ha : ¬ c = a := fun e => h (by simp [e])
    have ih' := ih (fun hm => h (by simp [hm]))
    rw [Lib.index, ih']
    have e1 : ((c :: t).isPrefixOf (a :: r)) = false := by simp [List.isPrefixOf, ha]
    rw [e1]
    simp
theorem index_two (x y : List UInt8) (h : (39 : UInt8) ∉ x) : Lib.index (x ++ 39 :: 39 :: y) [39, 39] = (x.length : Int) := by
  induction x with
  | nil => simp [Lib.index]
  | cons a r ih =>
    have ha : ¬ (39 : UInt8) = a := fun e => h (by simp [e])
    have ih' := ih (fun hm => h (by simp [hm]))
    rw [List.cons_append, Lib.index, ih']
    have e1 : (([39, 39] : List UInt8).isPrefixOf (a :: (r ++ 39 :: 39 :: y))) = false := by simp [List.isPrefixOf, ha]
    rw [e1]
    have e2 : ((r.length : Int) == -1) = false := by rw [beq_eq_false_iff_ne]; omega
    simp [e2]

theorem rep_dbl : ∀ (n : Nat) (s : List UInt8), s.length ≤ n → Lib.replaceK [39] [39, 39] (Lib.count s [39]) s = dbl s := by
  intro n
  induction n with
  | zero =>
    intro s hs
    obtain rfl : s = [] := List.length_eq_zero_iff.1 (by omega)
    rfl
  | succ n ih =>
    intro s hs
    rcases split39 s with h | ⟨x, y, rfl, h⟩
    · rw [show Lib.count s [39] = 0 from Lib.count_miss (index_none1 s 39 [] h), dbl_none s h]; rfl
    · have e := index_one x y 39 h
      rw [Lib.count_hit (by simp) e, Nat.add_comm, Lib.replaceK_hit _ _ _ _ _ e, dbl_skip x y h]
      have e1 : (x ++ 39 :: y).drop (x.length + [(39 : UInt8)].length) = y := by simp
      rw [e1, ih y (by simp at hs; omega), List.take_left]
      simp
theorem replace_dbl (s : List UInt8) : Lib.replaceAll s [39] [39, 39] = dbl s := by
  have e : Lib.replaceNum s [39] (-1) = Lib.count s [39] := by simp [Lib.replaceNum]
  unfold Lib.replaceAll Lib.replace
  rw [e, if_neg (by decide)]
  exact rep_dbl s.length s (Nat.le_refl _)

theorem rep_und : ∀ (n : Nat) (s : List UInt8), s.length ≤ n → Lib.replaceK [39, 39] [39] (Lib.count (dbl s) [39, 39]) (dbl s) = s := by
  intro n
  induction n with
  | zero =>
    intro s hs
    obtain rfl : s = [] := List.length_eq_zero_iff.1 (by omega)
    rfl
  | succ n ih =>
    intro s hs
    rcases split39 s with h | ⟨x, y, rfl, h⟩
    · rw [dbl_none s h, show Lib.count s [39, 39] = 0 from Lib.count_miss (index_none1 s 39 [39] h)]; rfl
    · have e := index_two x (dbl y) h
      rw [dbl_skip x y h, Lib.count_hit (by simp) e, Nat.add_comm, Lib.replaceK_hit _ _ _ _ _ e]
      have e1 : (x ++ 39 :: 39 :: dbl y).drop (x.length + [(39 : UInt8), 39].length) = dbl y := by simp
      rw [e1, ih y (by simp at hs; omega), List.take_left]
      simp
theorem replace_und (s : List UInt8) : Lib.replaceAll (dbl s) [39, 39] [39] = s := by
  have e : Lib.replaceNum (dbl s) [39, 39] (-1) = Lib.count (dbl s) [39, 39] := by simp [Lib.replaceNum]
  unfold Lib.replaceAll Lib.replace
  rw [e, if_neg (by decide)]
  exact rep_und s.length s (Nat.le_refl _)

/-- What the program reads of what stands behind PIC. -/
def picL (l : List UInt8) : List UInt8 := Lib.replaceAll (Lib.trimSuffix (Lib.trimPrefix l [39]) [39]) [39, 39] [39]
theorem pic_back (s : List UInt8) : picL (39 :: (dbl s ++ [39])) = s := by
  unfold picL
  rw [show (39 :: (dbl s ++ [39]) : List UInt8) = [39] ++ (dbl s ++ [39]) from rfl, trimPrefix_self, trimSuffix_self, replace_und]
theorem dbl_length (s : List UInt8) : s.length ≤ (dbl s).length ∧ (dbl s).length ≤ 2 * s.length := by
  induction s with
  | nil => simp [dbl]
  | cons a r ih =>
    by_cases h : a = 39 <;> simp [dbl, h] <;> omega

/-- Lengths: what stands behind them. -/
def lenL (l : List UInt8) : Int × Bool := (numL (insideL (Lib.trimSuffix l [32, 86, 65, 82])), Lib.hasSuffix l [32, 86, 65, 82])
theorem len_back (n : Int) (vy : Bool) (h0 : 0 ≤ n) (h : n < 1000) : lenL (one1 n ++ vary vy) = (n, vy) := by
  unfold lenL
  cases vy with
  | true =>
    have e : vary true = [32, 86, 65, 82] := rfl
    rw [e, trimSuffix_self, one_back n h0 h]
    have : Lib.hasSuffix (one1 n ++ [32, 86, 65, 82]) [32, 86, 65, 82] = true := by
      unfold Lib.hasSuffix; rw [List.isSuffixOf_iff_suffix]; exact List.suffix_append _ _
    rw [this]
  | false =>
    have e : one1 n ++ vary false = one1 n := by simp [vary]
    have hs : Lib.hasSuffix (one1 n) [32, 86, 65, 82] = false := by
      unfold Lib.hasSuffix
      rw [Bool.eq_false_iff]
      intro hh
      rw [List.isSuffixOf_iff_suffix] at hh
      obtain ⟨t, ht⟩ := hh
      have h1 : (t ++ [32, 86, 65, 82] : List UInt8).getLast? = some 82 := by simp
      have h2 : (one1 n).getLast? = some 41 := by
        rw [show one1 n = (40 :: Lib.itoa n) ++ [41] from rfl, List.getLast?_append]; rfl
      rw [ht, h2] at h1
      cases h1
    rw [e, hs]
    have : Lib.trimSuffix (one1 n) [32, 86, 65, 82] = one1 n := by unfold Lib.trimSuffix; rw [hs]; rfl
    rw [this, one_back n h0 h]

/-! ### The specification's ways -/

/-- Up to so many digits at the beginning of a text: their number behind m, and what stands behind them. -/
def takeN : Nat → Int → List UInt8 → Int × List UInt8
  | 0, m, l => (m, l)
  | _ + 1, m, [] => (m, [])
  | j + 1, m, c :: r => if isDig c then takeN j (10 * m + (c.toNat - 48)) r else (m, c :: r)
theorem takeN_num3 {n : Nat} {l : List UInt8} (h : Num3 n l) (r : List UInt8) (hr : ∀ c t, r = c :: t → isDig c = false) : takeN 3 0 (l ++ r) = ((n : Int), r) := by
  have stop : ∀ j m, takeN j m r = (m, r) := by
    intro j m
    cases j with
    | zero => rfl
    | succ j =>
      cases r with
      | nil => rfl
      | cons c t => simp [takeN, hr c t rfl]
  cases h with
  | one a h => simp [takeN, isDig_ofNat, h, digit_nat, stop]; omega
  | two a b h0 h h' => simp [takeN, isDig_ofNat, h, h', digit_nat, stop]; omega
  | three a b c h0 h h' h'' => simp [takeN, isDig_ofNat, h, h', h'', digit_nat]; omega
theorem takeN_itoa (n : Int) (h0 : 0 ≤ n) (h : n < 1000) (r : List UInt8) (hr : ∀ c t, r = c :: t → isDig c = false) : takeN 3 0 (Lib.itoa n ++ r) = (n, r) := by
  rw [takeN_num3 (num3_itoa n h0 h) r hr]
  exact Prod.ext (by show ((n.toNat : Nat) : Int) = n; omega) rfl

def pairUp : List UInt8 → List UInt8
  | [] => []
  | [_] => []
  | c :: d :: r => if c = 39 then 39 :: pairUp r else c :: pairUp (d :: r)
theorem pairUp_dbl (s : List UInt8) : pairUp (dbl s ++ [39]) = s := by
  induction s with
  | nil => rfl
  | cons a r ih =>
    by_cases h : a = 39
    · subst h; simp [dbl, pairUp, ih]
    · have : dbl (a :: r) ++ [39] = a :: (dbl r ++ [39]) := by simp [dbl, h]
      rw [this]
      cases hd : dbl r ++ [39] with
      | nil => simp at hd
      | cons d t => rw [hd] at ih; simp [pairUp, h, ih]

end Go.Proofs.YtcekphfmpjdbmaaGreatDoor
