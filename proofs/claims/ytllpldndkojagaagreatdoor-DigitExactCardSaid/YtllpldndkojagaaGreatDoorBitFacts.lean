/- Layer 5's promises about lists of bytes: no program in this text. -/
import Derived.Test.YtllpldndkojagaaGreatDoorBitPure
namespace Go.Proofs.YtllpldndkojagaaGreatDoor

/-! ### P5.6: fitted twice, turned round twice -/

theorem fitL_ok {k : Int} {l : List UInt8} {n : Nat} {vy : Bool} (h : okT k l = true) (hn : n ≤ 250) : okT k (fitL k l n vy) = true := by
  refine okT_mk (okT_kind h) ?_ (tellL_mem fun i _ => getF_ok (okT_kind h) (okT_all h) i)
  have := okT_len h
  unfold fitL; rw [tellL_len]; split <;> omega
theorem fitL_len (k : Int) (l : List UInt8) (n : Nat) (vy : Bool) : (fitL k l n vy).length = if vy then min l.length n else n := tellL_len _ _
theorem fitC_fit (k : Int) (l : List UInt8) (n : Nat) (vy : Bool) : fitC (fitL k l n vy) n = 0 := by
  unfold fitC
  rw [fitL_len, if_neg (by split <;> omega)]
theorem fitL_fit (k : Int) (l : List UInt8) (n : Nat) (vy : Bool) : fitL k (fitL k l n vy) n vy = fitL k l n vy := by
  have e : (if vy then min (fitL k l n vy).length n else n) = (fitL k l n vy).length := by
    rw [fitL_len]; split <;> omega
  rw [fitL, e, fit_self]

/-! ### P5.2: parts -/

theorem subL_get (l : List UInt8) (i n : Int) (j : Nat) (h : j < (subL l i n).length) : (subL l i n)[j] = l.getD (begN l i + j) 0 := by
  have h2 : begN l i + j < l.length := by
    have := endN_le l i n
    simp [subL] at h; omega
  simp [subL, List.getD, List.getElem?_eq_getElem h2]
theorem subL_len (l : List UInt8) (i n : Int) : (subL l i n).length = endN l i n - begN l i := by
  have := endN_le l i n
  simp [subL]; omega
theorem setL_len (k : Int) (l : List UInt8) (i n : Int) (v : List UInt8) : (setL k l i n v).length = l.length := tellL_len _ _
theorem setL_get (k : Int) (l : List UInt8) (i n : Int) (v : List UInt8) (j : Nat) (h : j < (setL k l i n v).length) : (setL k l i n v)[j] = setF k l i n v j := tellL_get _ _ _ h
theorem setL_ok {k : Int} {l v : List UInt8} {i n : Int} (h : okT k l = true) (hv : okT k v = true) : okT k (setL k l i n v) = true := by
  refine okT_mk (okT_kind h) (by rw [setL_len]; exact okT_len h) (tellL_mem fun j _ => ?_)
  unfold setF; split
  · exact getF_ok (okT_kind h) (okT_all hv) _
  · exact getF_ok (okT_kind h) (okT_all h) _
theorem partC_zero {l : List UInt8} {i n : Int} (h : partC l i n = 0) : 1 ≤ i ∧ 0 ≤ n ∧ i + n - 1 ≤ l.length := by
  unfold partC at h; split at h
  · assumption
  · cases h
theorem partC_of {l : List UInt8} {i n : Int} (h : 1 ≤ i ∧ 0 ≤ n ∧ i + n - 1 ≤ l.length) : partC l i n = 0 := if_pos h
/-- A right part's ends. -/
theorem ends_right {l : List UInt8} {i n : Int} (h : partC l i n = 0) : begN l i = (i - 1).toNat ∧ endN l i n = (i - 1).toNat + n.toNat := by
  have := partC_zero h
  unfold endN begN clampN; omega
theorem sub_set {k : Int} {l v : List UInt8} {i n : Int} (h : partC l i n = 0) : subL (setL k l i n v) i n = fitL k v n.toNat false := by
  have hp := partC_zero h
  have h2 : partC (setL k l i n v) i n = 0 := partC_of (by rw [setL_len]; exact hp)
  have e := ends_right h2
  apply tell_eq
  · rw [subL_len, e.1, e.2]; simp
  · intro j hj
    have hj' : j < n.toNat := by rw [subL_len, e.1, e.2] at hj; omega
    rw [subL_get, e.1]
    have hlt : (i - 1).toNat + j < (setL k l i n v).length := by rw [setL_len]; omega
    rw [List.getD, List.getElem?_eq_getElem hlt, Option.getD_some, setL_get, setF, if_pos (by omega)]
    congr 1
    omega
theorem set_before {k : Int} {l v : List UInt8} {i n : Int} (h : partC l i n = 0) : (setL k l i n v).take (i - 1).toNat = l.take (i - 1).toNat := by
  have hp := partC_zero h
  apply List.ext_getElem
  · simp [setL_len]
  · intro j h1 h2
    simp [setL_len] at h1 h2
    rw [List.getElem_take, List.getElem_take]
    rw [setL_get, setF, if_neg (by omega), getF_lt (by omega)]
theorem set_behind {k : Int} {l v : List UInt8} {i n : Int} (h : partC l i n = 0) : (setL k l i n v).drop ((i - 1).toNat + n.toNat) = l.drop ((i - 1).toNat + n.toNat) := by
  have hp := partC_zero h
  apply List.ext_getElem
  · simp [setL_len]
  · intro j h1 h2
    simp [setL_len] at h1 h2
    rw [List.getElem_drop, List.getElem_drop]
    rw [setL_get, setF, if_neg (by omega), getF_lt (by omega)]

/-! ### P5.3: what is found -/

theorem hasPrefix_iff (s p : List UInt8) : Lib.hasPrefix s p = true ↔ p <+: s := by
  rw [← Lib.hasPrefix_of_take]
  simp only [Bool.and_eq_true, decide_eq_true_eq, beq_iff_eq]
  constructor
  · rintro ⟨_, h⟩; exact ⟨s.drop p.length, by conv => lhs; lhs; rw [← h]
                                              exact List.take_append_drop _ _⟩
  · rintro ⟨t, rfl⟩; simp
theorem index_len {l p : List UInt8} {a : Nat} (h : leastN (begsP l p) l.length = a + 1) : a + p.length ≤ l.length ∧ 0 < p.length ∧ (l.drop a).take p.length = p := by
  obtain ⟨h1, h2, _⟩ := leastN_spec h
  simp only [begsP, Bool.and_eq_true, Bool.not_eq_true', hasPrefix_iff] at h1
  obtain ⟨hp, t, ht⟩ := h1
  have hl := congrArg List.length ht
  simp at hl
  have hp' : 0 < p.length := by
    cases p with
    | nil => simp at hp
    | cons c r => simp
  refine ⟨by omega, hp', ?_⟩
  rw [← ht]; simp
theorem index_sub {l p : List UInt8} {a : Nat} (h : leastN (begsP l p) l.length = a + 1) : subL l (a + 1) p.length = p ∧ partC l (a + 1) p.length = 0 := by
  obtain ⟨h1, h2, h3⟩ := index_len h
  have hc : partC l ((a : Int) + 1) p.length = 0 := partC_of (by omega)
  refine ⟨?_, hc⟩
  have e := ends_right hc
  unfold subL
  rw [e.1, e.2, show ((a : Int) + 1 - 1).toNat = a by omega, Int.toNat_natCast, List.drop_take]
  rw [show a + p.length - a = p.length by omega]
  exact h3
theorem begs_take {l p : List UInt8} {i m : Nat} (h : begsP (l.take m) p i = true) : begsP l p i = true ∧ i + p.length ≤ m := by
  simp only [begsP, Bool.and_eq_true, Bool.not_eq_true', hasPrefix_iff] at h ⊢
  obtain ⟨hp, t, ht⟩ := h
  have hl := congrArg List.length ht
  simp at hl
  refine ⟨⟨hp, t ++ (l.drop m).drop (i - m), ?_⟩, ?_⟩
  · rw [← List.append_assoc, ht, List.drop_take]
    have : (l.drop m).drop (i - m) = (l.drop i).drop (m - i) := by
      rw [List.drop_drop, List.drop_drop]
      have hp' : 0 < p.length := by
        cases p with
        | nil => simp at hp
        | cons c r => simp
      congr 1; omega
    rw [this, List.take_append_drop]
  · have hp' : 0 < p.length := by
      cases p with
      | nil => simp at hp
      | cons c r => simp
    omega
theorem index_before {l p : List UInt8} {a : Nat} (h : leastN (begsP l p) l.length = a + 1) : leastN (begsP (subL l 1 ((a : Int) + 1 + p.length - 2)) p) (subL l 1 ((a : Int) + 1 + p.length - 2)).length = 0 := by
  obtain ⟨h1, h2, h3⟩ := index_len h
  obtain ⟨_, _, h4⟩ := leastN_spec h
  have hs : subL l 1 ((a : Int) + 1 + p.length - 2) = l.take (a + p.length - 1) := by
    have hc : partC l 1 ((a : Int) + 1 + p.length - 2) = 0 := partC_of (by omega)
    have e := ends_right hc
    unfold subL
    rw [e.1, e.2, show ((1 : Int) - 1).toNat = 0 by omega, List.drop_zero]
    congr 1; omega
  rw [hs]
  apply leastN_zero
  intro i hi
  cases hb : begsP (l.take (a + p.length - 1)) p i with
  | false => rfl
  | true =>
    obtain ⟨h5, h6⟩ := begs_take hb
    have := h4 i (by omega)
    rw [h5] at this; cases this
theorem subL_ok {k : Int} {l : List UInt8} {i n : Int} (h : okT k l = true) : okT k (subL l i n) = true := by
  refine okT_mk (okT_kind h) ?_ fun c hc => okT_all h c ?_
  · have := okT_len h; have := endN_le l i n; rw [subL_len]; omega
  · unfold subL at hc; exact List.mem_of_mem_take (List.mem_of_mem_drop hc)

/-! ### Joined, turned -/

theorem append_ok {k : Int} {a b : List UInt8} (ha : okT k a = true) (hb : okT k b = true) (hl : a.length + b.length ≤ 250) : okT k (a ++ b) = true := by
  refine okT_mk (okT_kind ha) (by simpa using hl) fun c hc => ?_
  rcases List.mem_append.1 hc with h | h
  · exact okT_all ha c h
  · exact okT_all hb c h
theorem reverse_ok {k : Int} {a : List UInt8} (ha : okT k a = true) : okT k a.reverse = true :=
  okT_mk (okT_kind ha) (by simpa using okT_len ha) fun c hc => okT_all ha c (by simpa using hc)
theorem join_left (a b : List UInt8) : subL (a ++ b) 1 a.length = a ∧ partC (a ++ b) 1 a.length = 0 := by
  have hc : partC (a ++ b) 1 a.length = 0 := partC_of (by simp; omega)
  have e := ends_right hc
  refine ⟨?_, hc⟩
  unfold subL
  rw [e.1, e.2]; simp
/-- The part from a place on. -/
def restN (l : List UInt8) (i : Int) : Int := l.length - i + 1
theorem join_right (a b : List UInt8) : subL (a ++ b) (a.length + 1) (restN (a ++ b) (a.length + 1)) = b ∧ partC (a ++ b) (a.length + 1) (restN (a ++ b) (a.length + 1)) = 0 := by
  have hc : partC (a ++ b) (a.length + 1) (restN (a ++ b) (a.length + 1)) = 0 := partC_of (by unfold restN; simp; omega)
  have e := ends_right hc
  refine ⟨?_, hc⟩
  unfold subL
  rw [e.1, e.2, List.take_of_length_le (by unfold restN; simp; omega)]
  simp

/-! ### P5.4: logic -/

theorem bit_of {c : UInt8} (h : okC 5 c = true) : c = 48 ∨ c = 49 := by
  simp only [okC, fillC, topC, if_true, Bool.and_eq_true, decide_eq_true_eq] at h
  have h1 : (48 : UInt8).toNat = 48 := rfl
  have h2 : (49 : UInt8).toNat = 49 := rfl
  rw [h1, h2] at h
  have : c.toNat = 48 ∨ c.toNat = 49 := by omega
  rcases this with e | e
  · left; exact UInt8.toNat_inj.1 (by rw [e, h1])
  · right; exact UInt8.toNat_inj.1 (by rw [e, h2])
def tabAnd : List UInt8 := [48, 48, 48, 49]
def tabOr : List UInt8 := [48, 49, 49, 49]
def tabXor : List UInt8 := [48, 49, 49, 48]
def tabNot : List UInt8 := [49, 48, 48, 48]
theorem boolL_len (a b t : List UInt8) : (boolL a b t).length = max a.length b.length := tellL_len _ _
theorem notL_len (a : List UInt8) : (notL a).length = a.length := tellL_len _ _
theorem bits_all {a : List UInt8} (h : okT 5 a = true) (i : Nat) : getF 5 a i = 48 ∨ getF 5 a i = 49 := bit_of (getF_ok (.inr rfl) (okT_all h) i)
theorem notL_ok {a : List UInt8} (h : okT 5 a = true) : okT 5 (notL a) = true := by
  refine okT_mk (.inr rfl) (by rw [notL_len]; exact okT_len h) (tellL_mem fun i _ => ?_)
  split <;> decide
theorem bitF_ok {t : List UInt8} (ht : okTab t = true) {x y : UInt8} (hx : x = 48 ∨ x = 49) (hy : y = 48 ∨ y = 49) : okC 5 (bitF t x y) = true := by
  simp only [okTab, Bool.and_eq_true, decide_eq_true_eq, List.all_eq_true] at ht
  obtain ⟨hl, ha⟩ := ht
  have key : ∀ j, j < 4 → okC 5 (t.getD j 0) = true := by
    intro j hj
    rw [List.getD, List.getElem?_eq_getElem (by omega), Option.getD_some]
    exact ha _ (List.getElem_mem _)
  unfold bitF
  rcases hx with rfl | rfl <;> rcases hy with rfl | rfl <;> exact key _ (by decide)
theorem boolL_ok {a b t : List UInt8} (ha : okT 5 a = true) (hb : okT 5 b = true) (ht : okTab t = true) : okT 5 (boolL a b t) = true := by
  refine okT_mk (.inr rfl) (by rw [boolL_len]; have := okT_len ha; have := okT_len hb; omega) (tellL_mem fun i _ => ?_)
  exact bitF_ok ht (bits_all ha i) (bits_all hb i)
theorem tell_getF (k : Int) (n : Nat) (f : Nat → UInt8) (i : Nat) (h : i < n) : getF k (tellL n f) i = f i := by
  rw [getF_lt (by rw [tellL_len]; exact h), tellL_get]
/-- Not of And is Or of Nots. -/
theorem morgan {a b : List UInt8} (ha : okT 5 a = true) (hb : okT 5 b = true) (hl : a.length = b.length) : notL (boolL a b tabAnd) = boolL (notL a) (notL b) tabOr := by
  have e1 : (boolL a b tabAnd).length = a.length := by rw [boolL_len]; omega
  have e2 : max (notL a).length (notL b).length = a.length := by rw [notL_len, notL_len]; omega
  rw [notL, e1]
  unfold boolL
  rw [e2]
  apply tellL_congr
  intro i hi
  have ea : getF 5 (notL a) i = if getF 5 a i = 48 then 49 else 48 := tell_getF 5 _ _ i hi
  have eb : getF 5 (notL b) i = if getF 5 b i = 48 then 49 else 48 := tell_getF 5 _ _ i (by omega)
  rw [tell_getF 5 _ _ i (by omega), ea, eb]
  rcases bits_all ha i with h1 | h1 <;> rcases bits_all hb i with h2 | h2 <;> rw [h1, h2] <;> decide
theorem not_bool {a : List UInt8} (ha : okT 5 a = true) : boolL a a tabNot = notL a := by
  unfold boolL notL
  rw [Nat.max_self]
  apply tellL_congr
  intro i _
  rcases bits_all ha i with h1 | h1 <;> rw [h1] <;> decide

/-! ### P5.5: an order -/

theorem cmpB_neg (x y : UInt8) : cmpB y x = - cmpB x y := by
  unfold cmpB
  split <;> split <;> first | omega | (split <;> omega) | skip
theorem cmpB_zero {x y : UInt8} (h : cmpB x y = 0) : x = y := by
  unfold cmpB at h
  split at h
  · cases h
  · split at h
    · cases h
    · exact UInt8.toNat_inj.1 (by omega)
theorem cmpTo_neg (f g : Nat → UInt8) (n : Nat) : cmpTo g f n = - cmpTo f g n := by
  induction n with
  | zero => rfl
  | succ n ih =>
    unfold cmpTo
    rw [ih]
    by_cases h : cmpTo f g n = 0
    · rw [h, if_neg (by decide), if_neg (by decide), cmpB_neg]
    · rw [if_pos h, if_pos (by omega)]
theorem cmpL_neg (k : Int) (a b : List UInt8) : cmpL k b a = - cmpL k a b := by
  unfold cmpL; rw [Nat.max_comm, cmpTo_neg]
theorem cmpTo_more {f g : Nat → UInt8} {n : Nat} (h : ∀ i, n ≤ i → f i = g i) (m : Nat) (hm : n ≤ m) : cmpTo f g m = cmpTo f g n := by
  induction m with
  | zero => obtain rfl : n = 0 := by omega
            rfl
  | succ m ih =>
    by_cases e : n = m + 1
    · rw [e]
    · rw [cmpTo, ih (by omega), h m (by omega)]
      by_cases hc : cmpTo f g n = 0
      · rw [hc]; simp [cmpB]
      · rw [if_pos hc]
theorem cmpL_more (k : Int) (a b : List UInt8) (m : Nat) (h : max a.length b.length ≤ m) : cmpTo (getF k a) (getF k b) m = cmpL k a b :=
  cmpTo_more (fun i hi => by rw [getF_ge (by omega), getF_ge (by omega)]) m h
theorem cmpTo_eq {f g : Nat → UInt8} {n : Nat} (h : cmpTo f g n = 0) : ∀ i, i < n → f i = g i := by
  induction n with
  | zero => intro i hi; omega
  | succ n ih =>
    rw [cmpTo] at h
    by_cases hc : cmpTo f g n = 0
    · rw [if_neg (by simpa using hc)] at h
      intro i hi
      by_cases e : i = n
      · subst e; exact cmpB_zero h
      · exact ih hc i (by omega)
    · rw [if_pos hc] at h; exact absurd h hc
theorem cmpB_trans {x y z : UInt8} (h1 : cmpB x y ≤ 0) (h2 : cmpB y z ≤ 0) : cmpB x z ≤ 0 ∧ (cmpB x z = 0 → cmpB x y = 0 ∧ cmpB y z = 0) := by
  unfold cmpB at *
  repeat' split at h1
  all_goals repeat' split at h2
  all_goals first | omega | skip
  all_goals constructor
  all_goals repeat' split
  all_goals first | omega | (intro h; repeat' split at h) | skip
  all_goals omega
theorem cmpTo_trans (f g h : Nat → UInt8) (n : Nat) (h1 : cmpTo f g n ≤ 0) (h2 : cmpTo g h n ≤ 0) : cmpTo f h n ≤ 0 ∧ (cmpTo f h n = 0 → cmpTo f g n = 0 ∧ cmpTo g h n = 0) := by
  induction n with
  | zero => exact ⟨Int.le_refl _, fun _ => ⟨rfl, rfl⟩⟩
  | succ n ih =>
    rw [cmpTo] at h1 h2 ⊢
    by_cases a : cmpTo f g n = 0
    · by_cases b : cmpTo g h n = 0
      · have hz : cmpTo f h n = 0 := cmpTo_zero fun i hi => (cmpTo_eq a i hi).trans (cmpTo_eq b i hi)
        rw [if_neg (by simpa using a)] at h1
        rw [if_neg (by simpa using b)] at h2
        rw [if_neg (by simpa using hz), cmpTo, if_neg (by simpa using a), cmpTo, if_neg (by simpa using b)]
        exact cmpB_trans h1 h2
      · rw [if_pos b] at h2
        have hx := ih (by omega) h2
        have hz : cmpTo f h n ≠ 0 := fun e => b (hx.2 e).2
        rw [if_pos hz]
        exact ⟨hx.1, fun e => absurd e hz⟩
    · rw [if_pos a] at h1
      by_cases b : cmpTo g h n = 0
      · have hx := ih h1 (by omega)
        have hz : cmpTo f h n ≠ 0 := fun e => a (hx.2 e).1
        rw [if_pos hz]
        exact ⟨hx.1, fun e => absurd e hz⟩
      · rw [if_pos b] at h2
        have hx := ih h1 h2
        have hz : cmpTo f h n ≠ 0 := fun e => a (hx.2 e).1
        rw [if_pos hz]
        exact ⟨hx.1, fun e => absurd e hz⟩
theorem cmpL_trans (k : Int) (a b c : List UInt8) (h1 : cmpL k a b ≤ 0) (h2 : cmpL k b c ≤ 0) : cmpL k a c ≤ 0 := by
  have e1 := cmpL_more k a b (max a.length (max b.length c.length)) (by omega)
  have e2 := cmpL_more k b c (max a.length (max b.length c.length)) (by omega)
  have e3 := cmpL_more k a c (max a.length (max b.length c.length)) (by omega)
  rw [← e1] at h1; rw [← e2] at h2; rw [← e3]
  exact (cmpTo_trans _ _ _ _ h1 h2).1
theorem cmpL_trans' (k : Int) (a b c : List UInt8) (h1 : 0 ≤ cmpL k a b) (h2 : 0 ≤ cmpL k b c) : 0 ≤ cmpL k a c := by
  have e1 := cmpL_neg k a b
  have e2 := cmpL_neg k b c
  have e3 := cmpL_neg k a c
  have := cmpL_trans k c b a (by omega) (by omega)
  omega
theorem cmpTo_abs (f g : Nat → UInt8) (n : Nat) : -1 ≤ cmpTo f g n ∧ cmpTo f g n ≤ 1 := by
  induction n with
  | zero => exact ⟨by unfold cmpTo; omega, by unfold cmpTo; omega⟩
  | succ n ih =>
    unfold cmpTo; split
    · exact ih
    · unfold cmpB; split
      · omega
      · split <;> omega
theorem cmpL_abs (k : Int) (a b : List UInt8) : -1 ≤ cmpL k a b ∧ cmpL k a b ≤ 1 := cmpTo_abs _ _ _
end Go.Proofs.YtllpldndkojagaaGreatDoor
