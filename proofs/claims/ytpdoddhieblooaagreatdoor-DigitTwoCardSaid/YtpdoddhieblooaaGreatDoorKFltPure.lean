/- Plain numbers: a quotient rounded half up, zeros at a number's end, and a fraction brought to so many digits: whatever powers of ten bring it there, the digits and the power are the same. No program in this text. -/

namespace Go.Proofs.YtpdoddhieblooaaGreatDoor

def rndN (n d : Nat) : Nat := n / d + if d ≤ 2 * (n % d) then 1 else 0
theorem rnd_scale (n d c : Nat) (hc : 0 < c) : rndN (n * c) (d * c) = rndN n d := by
 unfold rndN
 rw [Nat.mul_div_mul_right _ _ hc, Nat.mul_mod_mul_right]
 have e : (d * c ≤ 2 * (n % d * c)) ↔ (d ≤ 2 * (n % d)) := by
   rw [← Nat.mul_assoc]
   exact Nat.mul_le_mul_right_iff hc
 by_cases h : d ≤ 2 * (n % d)
 · rw [if_pos h, if_pos (e.2 h)]
 · rw [if_neg h, if_neg (fun x => h (e.1 x))]
theorem rnd_same {n d n' d' : Nat} (hd : 0 < d) (hd' : 0 < d') (e : n * d' = n' * d) : rndN n d = rndN n' d' := by
 rw [← rnd_scale n d d' hd', ← rnd_scale n' d' d hd, e, Nat.mul_comm d d']
def tz (D : Nat) : Nat := if h : D = 0 then 0 else if D % 10 = 0 then tz (D / 10) + 1 else 0
termination_by D
decreasing_by omega
theorem tz_stop {D : Nat} (h : D % 10 ≠ 0) : tz D = 0 := by
 rw [tz]
 by_cases h0 : D = 0
 · rw [dif_pos h0]
 · rw [dif_neg h0, if_neg h]
theorem tz_step {D : Nat} (h0 : D ≠ 0) (h : D % 10 = 0) : tz D = tz (D / 10) + 1 := by
 rw [tz, dif_neg h0, if_pos h]
def cutz (D : Nat) : Nat := D / 10 ^ tz D
theorem cutz_step {D : Nat} (h0 : D ≠ 0) (h : D % 10 = 0) : cutz (D / 10) = cutz D := by
 unfold cutz
 rw [tz_step h0 h, Nat.pow_succ, Nat.mul_comm, ← Nat.div_div_eq_div_mul]
theorem cutz_stop {D : Nat} (h : D % 10 ≠ 0) : cutz D = D := by
 unfold cutz
 rw [tz_stop h, Nat.pow_zero, Nat.div_one]
theorem cutz_le (D : Nat) : cutz D ≤ D := Nat.div_le_self _ _
theorem tz_dvd (D : Nat) : 10 ^ tz D * cutz D = D := by
 induction D using Nat.strongRecOn with
 | _ D ih =>
   by_cases h0 : D = 0
   · subst h0; simp [cutz]
   · by_cases h : D % 10 = 0
     · have := ih (D / 10) (by omega)
       rw [cutz_step h0 h] at this
       rw [tz_step h0 h, Nat.pow_succ, Nat.mul_assoc, Nat.mul_left_comm, this]
       omega
     · rw [tz_stop h, cutz_stop h, Nat.pow_zero, Nat.one_mul]
theorem cutz_pos {D : Nat} (h : 0 < D) : 0 < cutz D := by
 rcases Nat.eq_zero_or_pos (cutz D) with h0 | h0
 · have := tz_dvd D
   rw [h0, Nat.mul_zero] at this
   omega
 · exact h0
theorem tz_lt {D n : Nat} (h0 : 0 < D) (h : D < 10 ^ n) : tz D < n := by
 have h1 := tz_dvd D
 have h2 := cutz_pos h0
 by_cases hn : tz D < n
 · exact hn
 · exfalso
   have h3 : 10 ^ n ≤ 10 ^ tz D := Nat.pow_le_pow_right (by decide) (by omega)
   have h4 : 10 ^ tz D * 1 ≤ 10 ^ tz D * cutz D := Nat.mul_le_mul_left _ h2
   omega
def FloR (P a u : Nat) (K : Int) (D : Nat) : Prop :=
 ∃ i j : Nat, K = (i : Int) - j ∧ 10 ^ (P - 1) * (u * 10 ^ j) ≤ a * 10 ^ i ∧ a * 10 ^ i < 10 ^ P * (u * 10 ^ j) ∧ D = rndN (a * 10 ^ i) (u * 10 ^ j)
theorem pow_pred {P : Nat} (h : 1 ≤ P) : 10 ^ P = 10 * 10 ^ (P - 1) := by
 rw [show P = (P - 1) + 1 by omega, Nat.pow_succ, Nat.mul_comm]
 simp
theorem flo_no {P n d n' d' m : Nat} (hP : 1 ≤ P) (hd : 0 < d) (h1 : 10 ^ (P - 1) * d ≤ n) (h2 : n' < 10 ^ P * d') (e : n' * d = n * d' * 10 ^ (m + 1)) : False := by
 have a1 : 10 ^ (P - 1) * d * d' ≤ n * d' := Nat.mul_le_mul_right _ h1
 have a2 : n' * d < 10 ^ P * d' * d := Nat.mul_lt_mul_of_pos_right h2 hd
 have a3 : n * d' * 10 ≤ n * d' * 10 ^ (m + 1) := Nat.mul_le_mul_left _ (by
   rw [Nat.pow_succ]
   have := Nat.pow_pos (n := m) (show 0 < 10 by decide)
   omega)
 rw [pow_pred hP] at a2
 have a4 : 10 * 10 ^ (P - 1) * d' * d = 10 * (10 ^ (P - 1) * d * d') := by
   rw [Nat.mul_assoc, Nat.mul_assoc, Nat.mul_comm d' d, Nat.mul_assoc]
 rw [a4] at a2
 omega
theorem flo_cross {a u a' u' i j i' j' : Nat} (hx : a * u' = a' * u) (m : Nat) (h : i' + j = i + j' + m) : a' * 10 ^ i' * (u * 10 ^ j) = a * 10 ^ i * (u' * 10 ^ j') * 10 ^ m := by
 have e1 : a' * 10 ^ i' * (u * 10 ^ j) = a' * u * 10 ^ (i' + j) := by rw [Nat.pow_add, Nat.mul_mul_mul_comm]
 have e2 : a * 10 ^ i * (u' * 10 ^ j') * 10 ^ m = a * u' * 10 ^ (i + j' + m) := by rw [Nat.pow_add, Nat.pow_add, Nat.mul_mul_mul_comm, Nat.mul_assoc (a * u')]
 rw [e1, e2, hx, h]
theorem FloR.same {P a u a' u' D D' : Nat} {K K' : Int} (h : FloR P a u K D) (h' : FloR P a' u' K' D') (hP : 1 ≤ P) (hu : 0 < u) (hu' : 0 < u') (hx : a * u' = a' * u) : K = K' ∧ D = D' := by
 obtain ⟨i, j, rfl, l1, l2, rfl⟩ := h
 obtain ⟨i', j', rfl, m1, m2, rfl⟩ := h'
 have hd : 0 < u * 10 ^ j := Nat.mul_pos hu (Nat.pow_pos (by decide))
 have hd' : 0 < u' * 10 ^ j' := Nat.mul_pos hu' (Nat.pow_pos (by decide))
 rcases Nat.lt_trichotomy (i + j') (i' + j) with hl | he | hl
 · exact (flo_no (m := i' + j - (i + j') - 1) hP hd l1 m2 (flo_cross hx _ (by omega))).elim
 · refine ⟨by omega, rnd_same hd hd' ?_⟩
   have := flo_cross (a := a) (u := u) (a' := a') (u' := u') hx 0 (show i' + j = i + j' + 0 by omega)
   rw [Nat.pow_zero, Nat.mul_one] at this
   exact this.symm
 · exact (flo_no (m := i + j' - (i' + j) - 1) hP hd' m1 l2 (flo_cross hx.symm _ (by omega))).elim
theorem FloR.bound {P a u D : Nat} {K : Int} (h : FloR P a u K D) (hu : 0 < u) : 0 < D ∧ D ≤ 10 ^ P := by
 obtain ⟨i, j, rfl, l1, l2, rfl⟩ := h
 have hd : 0 < u * 10 ^ j := Nat.mul_pos hu (Nat.pow_pos (by decide))
 have q1 : 10 ^ (P - 1) ≤ a * 10 ^ i / (u * 10 ^ j) := (Nat.le_div_iff_mul_le hd).2 l1
 have q2 : a * 10 ^ i / (u * 10 ^ j) < 10 ^ P := (Nat.div_lt_iff_lt_mul hd).2 l2
 have := Nat.pow_pos (n := P - 1) (show 0 < 10 by decide)
 unfold rndN
 split <;> omega
end Go.Proofs.YtpdoddhieblooaaGreatDoor
