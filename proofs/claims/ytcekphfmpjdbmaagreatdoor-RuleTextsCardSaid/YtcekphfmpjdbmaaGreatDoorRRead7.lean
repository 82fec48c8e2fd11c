/- The document's Read of any text. -/
import Derived.Test.YtcekphfmpjdbmaaGreatDoorRRead2
import Derived.Test.YtcekphfmpjdbmaaGreatDoorRRead3
import Derived.Test.YtcekphfmpjdbmaaGreatDoorRRead4
import Derived.Test.YtcekphfmpjdbmaaGreatDoorRRead5
import Derived.Test.YtcekphfmpjdbmaaGreatDoorRRead6
namespace Go.Proofs.YtcekphfmpjdbmaaGreatDoor
open Go.RowKit

def pw : Nat → List UInt8
  | 1 => wBin ++ [40] | 2 => wDec ++ [40] | 3 => wFlo ++ [40] | 4 => wCha ++ [40] | 5 => wBit ++ [40] | 6 => wPic ++ [39] | _ => []

theorem hp_iff (s p : List UInt8) : Lib.hasPrefix s p = true ↔ ∃ r, s = p ++ r := by
  unfold Lib.hasPrefix
  rw [List.isPrefixOf_iff_prefix]
  exact ⟨fun ⟨r, h⟩ => ⟨r, h.symm⟩, fun ⟨r, h⟩ => ⟨r, h.symm⟩⟩

/-- A text begins with at most one of the words, and then it is none of the three. -/
theorem only (s : ByteArray) (k : Nat) (h1 : 1 ≤ k) (h6 : k ≤ 6) (h : Lib.hasPrefix s.data.toList (pw k) = true) :
    (∀ j, 1 ≤ j → j ≤ 6 → j ≠ k → Lib.hasPrefix s.data.toList (pw j) = false) ∧ (s.toList == [80, 84, 82]) = false ∧ (s.toList == [76, 65, 66, 69, 76]) = false ∧ (s.toList == [69, 78, 84, 82, 89]) = false := by
  obtain ⟨r, hr⟩ := (hp_iff _ _).1 h
  rw [ByteArray.toList_eq, hr]
  refine ⟨fun j hj hj' hne => ?_, ?_, ?_, ?_⟩
  · obtain rfl | rfl | rfl | rfl | rfl | rfl : k = 1 ∨ k = 2 ∨ k = 3 ∨ k = 4 ∨ k = 5 ∨ k = 6 := by omega
    all_goals
      obtain rfl | rfl | rfl | rfl | rfl | rfl : j = 1 ∨ j = 2 ∨ j = 3 ∨ j = 4 ∨ j = 5 ∨ j = 6 := by omega
      all_goals first | rfl | exact absurd rfl hne
  all_goals
    obtain rfl | rfl | rfl | rfl | rfl | rfl : k = 1 ∨ k = 2 ∨ k = 3 ∨ k = 4 ∨ k = 5 ∨ k = 6 := by omega
    all_goals (simp [pw, wBin, wDec, wFlo, wCha, wBit, wPic])

theorem txt_begins {s : ByteArray} (t : Ty) (h : t.ok = true) (e : t.txt = s.data.toList) :
    (∃ k : Nat, 1 ≤ k ∧ k ≤ 6 ∧ t.k = k ∧ Lib.hasPrefix s.data.toList (pw k) = true) ∨ (t = ⟨7, 0, 0, 0, false, ⟨#[]⟩⟩ ∧ (s.toList == [80, 84, 82]) = true) ∨ (t = ⟨8, 0, 0, 0, false, ⟨#[]⟩⟩ ∧ (s.toList == [76, 65, 66, 69, 76]) = true) ∨ (t = ⟨9, 0, 0, 0, false, ⟨#[]⟩⟩ ∧ (s.toList == [69, 78, 84, 82, 89]) = true) := by
  rw [ByteArray.toList_eq, ← e]
  obtain ⟨k, p, q, n, vy, pic⟩ := t
  obtain ⟨k1, k9⟩ := ok_kind h
  obtain rfl | rfl | rfl | rfl | rfl | rfl | rfl | rfl | rfl : k = 1 ∨ k = 2 ∨ k = 3 ∨ k = 4 ∨ k = 5 ∨ k = 6 ∨ k = 7 ∨ k = 8 ∨ k = 9 := by omega
  · exact .inl ⟨1, by omega, by omega, rfl, (hp_iff _ _).2 ⟨_, by simp [Ty.txt, txt, pw, two2]; rfl⟩⟩
  · exact .inl ⟨2, by omega, by omega, rfl, (hp_iff _ _).2 ⟨_, by simp [Ty.txt, txt, pw, two2]; rfl⟩⟩
  · exact .inl ⟨3, by omega, by omega, rfl, (hp_iff _ _).2 ⟨_, by simp [Ty.txt, txt, pw, one1]; rfl⟩⟩
  · exact .inl ⟨4, by omega, by omega, rfl, (hp_iff _ _).2 ⟨_, by simp [Ty.txt, txt, pw, one1]; rfl⟩⟩
  · exact .inl ⟨5, by omega, by omega, rfl, (hp_iff _ _).2 ⟨_, by simp [Ty.txt, txt, pw, one1]; rfl⟩⟩
  · exact .inl ⟨6, by omega, by omega, rfl, (hp_iff _ _).2 ⟨_, by simp [Ty.txt, txt, pw]; rfl⟩⟩
  · obtain ⟨rfl, rfl, rfl, rfl, rfl⟩ := ok_789_of (by omega) h
    exact .inr (.inl ⟨rfl, rfl⟩)
  · obtain ⟨rfl, rfl, rfl, rfl, rfl⟩ := ok_789_of (by omega) h
    exact .inr (.inr (.inl ⟨rfl, rfl⟩))
  · obtain ⟨rfl, rfl, rfl, rfl, rfl⟩ := ok_789_of (by omega) h
    exact .inr (.inr (.inr ⟨rfl, rfl⟩))

/-- The kind of a type whose text begins with a word. -/
theorem kind_of {s : ByteArray} {k : Nat} (h1 : 1 ≤ k) (h6 : k ≤ 6) (h : Lib.hasPrefix s.data.toList (pw k) = true) (t : Ty) (ht : t.ok = true) (e : t.txt = s.data.toList) : t.k = k := by
  obtain ⟨ho, e7, e8, e9⟩ := only s k h1 h6 h
  rcases txt_begins t ht e with ⟨j, j1, j6, hj, hp⟩ | ⟨_, h'⟩ | ⟨_, h'⟩ | ⟨_, h'⟩
  · by_cases hjk : j = k
    · rw [hj, hjk]
    · have := ho j j1 j6 hjk; rw [hp] at this; cases this
  · rw [e7] at h'; cases h'
  · rw [e8] at h'; cases h'
  · rw [e9] at h'; cases h'

theorem nodig (c : UInt8) (t : List UInt8) (h : isDig c = false) : ∀ c' t', c :: t = c' :: t' → isDig c' = false := by
  intro c' t' e
  cases e
  exact h

theorem takeN_len : ∀ (j : Nat) (m : Int) (l : List UInt8), (takeN j m l).2.length ≤ l.length := by
  intro j
  induction j with
  | zero => intro m l; simp [takeN]
  | succ j ih =>
    intro m l
    cases l with
    | nil => simp [takeN]
    | cons c r =>
      simp only [takeN]
      split
      · have := ih (10 * m + (c.toNat - 48)) r; simp; omega
      · simp

theorem app_inj {a x y : List UInt8} (h : a ++ x = a ++ y) : x = y := List.append_cancel_left h

/-- What stands behind a word. -/
theorem behind (s : ByteArray) (k : Nat) (h : Lib.hasPrefix s.data.toList (pw k) = true) : s.data.toList = pw k ++ s.data.toList.drop (pw k).length := by
  obtain ⟨r, hr⟩ := (hp_iff _ _).1 h
  rw [hr, List.drop_left]

theorem reads_1 (s : ByteArray) (hs : s.size ≤ 100000) (h : Lib.hasPrefix s.data.toList (pw 1) = true) : ∃ T, ReadsAs s T ∧ ∀ t : Ty, t.ok = true → t.txt = s.data.toList → T = t := by
  obtain ⟨ho, e7, e8, e9⟩ := only s 1 (by omega) (by omega) h
  have hk := fun t ht e => kind_of (s := s) (k := 1) (by omega) (by omega) h t ht e
  have hb := behind s 1 h
  obtain ⟨L, hL⟩ : ∃ L, s.data.toList.drop (pw 1).length = L := ⟨_, rfl⟩
  rw [hL] at hb
  have hlen : L.length ≤ 100000 := by rw [← hL, List.length_drop, size_list]; omega
  have key : ∀ t : Ty, t.ok = true → t.txt = s.data.toList → ∃ p q, t = ⟨1, p, q, 0, false, ⟨#[]⟩⟩ ∧ takeN 3 0 L = (p, 44 :: (Lib.itoa q ++ [41])) ∧ takeN 3 0 (Lib.itoa q ++ [41]) = (q, [41]) := by
    intro t ht e
    have hk' := hk t ht e
    obtain ⟨k, p, q, n, vy, pic⟩ := t
    simp only at hk'
    subst hk'
    obtain ⟨h1, h2, h3, h4, rfl, rfl, rfl⟩ := ok_1_of ht
    have e2 : Lib.itoa p ++ 44 :: (Lib.itoa q ++ [41]) = L := by
      rw [hb] at e
      refine app_inj (a := pw 1) ?_
      rw [← e]
      simp [Ty.txt, txt, pw, two2]
    exact ⟨p, q, rfl, by rw [← e2]; exact takeN_itoa p (by omega) (by omega) _ (nodig 44 _ (by decide)), takeN_itoa q (by omega) (by omega) _ (nodig 41 _ (by decide))⟩
  obtain ⟨n1, r1, hT⟩ : ∃ n r, takeN 3 0 L = (n, r) := ⟨_, _, rfl⟩
  cases r1 with
  | nil =>
    refine ⟨_, rRead_1a s hs h (ho 2 (by omega) (by omega) (by omega)) (ho 3 (by omega) (by omega) (by omega)) (ho 4 (by omega) (by omega) (by omega)) (ho 5 (by omega) (by omega) (by omega)) (ho 6 (by omega) (by omega) (by omega)) e7 e8 e9 L n1 hL hT, fun t ht e => ?_⟩
    obtain ⟨p, q, _, e1, _⟩ := key t ht e
    rw [hT] at e1; cases e1
  | cons c r2 =>
    have hr2 : r2.length ≤ 100000 := by
      have h1 := takeN_len 3 0 L
      rw [hT] at h1
      simp only [List.length_cons] at h1
      omega
    obtain ⟨n2, r3, hU⟩ : ∃ n r, takeN 3 0 r2 = (n, r) := ⟨_, _, rfl⟩
    refine ⟨_, rRead_1b s hs h (ho 2 (by omega) (by omega) (by omega)) (ho 3 (by omega) (by omega) (by omega)) (ho 4 (by omega) (by omega) (by omega)) (ho 5 (by omega) (by omega) (by omega)) (ho 6 (by omega) (by omega) (by omega)) e7 e8 e9 L r2 r3 c n2 n1 hL hT hU hr2, fun t ht e => ?_⟩
    obtain ⟨p, q, rfl, e1, e2⟩ := key t ht e
    rw [hT] at e1
    have h1 := congrArg Prod.fst e1
    have h2 := congrArg Prod.snd e1
    simp only [List.cons.injEq] at h1 h2
    rw [h2.2, e2] at hU
    have h3 := congrArg Prod.fst hU
    simp only at h3
    rw [h1, h3]
theorem reads_2 (s : ByteArray) (hs : s.size ≤ 100000) (h : Lib.hasPrefix s.data.toList (pw 2) = true) : ∃ T, ReadsAs s T ∧ ∀ t : Ty, t.ok = true → t.txt = s.data.toList → T = t := by
  obtain ⟨ho, e7, e8, e9⟩ := only s 2 (by omega) (by omega) h
  have hk := fun t ht e => kind_of (s := s) (k := 2) (by omega) (by omega) h t ht e
  have hb := behind s 2 h
  obtain ⟨L, hL⟩ : ∃ L, s.data.toList.drop (pw 2).length = L := ⟨_, rfl⟩
  rw [hL] at hb
  have hlen : L.length ≤ 100000 := by rw [← hL, List.length_drop, size_list]; omega
  have key : ∀ t : Ty, t.ok = true → t.txt = s.data.toList → ∃ p q, t = ⟨2, p, q, 0, false, ⟨#[]⟩⟩ ∧ takeN 3 0 L = (p, 44 :: (Lib.itoa q ++ [41])) ∧ takeN 3 0 (Lib.itoa q ++ [41]) = (q, [41]) := by
    intro t ht e
    have hk' := hk t ht e
    obtain ⟨k, p, q, n, vy, pic⟩ := t
    simp only at hk'
    subst hk'
    obtain ⟨h1, h2, h3, h4, rfl, rfl, rfl⟩ := ok_2_of ht
    have e2 : Lib.itoa p ++ 44 :: (Lib.itoa q ++ [41]) = L := by
      rw [hb] at e
      refine app_inj (a := pw 2) ?_
      rw [← e]
      simp [Ty.txt, txt, pw, two2]
    exact ⟨p, q, rfl, by rw [← e2]; exact takeN_itoa p (by omega) (by omega) _ (nodig 44 _ (by decide)), takeN_itoa q (by omega) (by omega) _ (nodig 41 _ (by decide))⟩
  obtain ⟨n1, r1, hT⟩ : ∃ n r, takeN 3 0 L = (n, r) := ⟨_, _, rfl⟩
  cases r1 with
  | nil =>
    refine ⟨_, rRead_2a s hs (ho 1 (by omega) (by omega) (by omega)) h (ho 3 (by omega) (by omega) (by omega)) (ho 4 (by omega) (by omega) (by omega)) (ho 5 (by omega) (by omega) (by omega)) (ho 6 (by omega) (by omega) (by omega)) e7 e8 e9 L n1 hL hT, fun t ht e => ?_⟩
    obtain ⟨p, q, _, e1, _⟩ := key t ht e
    rw [hT] at e1; cases e1
  | cons c r2 =>
    have hr2 : r2.length ≤ 100000 := by
      have h1 := takeN_len 3 0 L
      rw [hT] at h1
      simp only [List.length_cons] at h1
      omega
    obtain ⟨n2, r3, hU⟩ : ∃ n r, takeN 3 0 r2 = (n, r) := ⟨_, _, rfl⟩
    refine ⟨_, rRead_2b s hs (ho 1 (by omega) (by omega) (by omega)) h (ho 3 (by omega) (by omega) (by omega)) (ho 4 (by omega) (by omega) (by omega)) (ho 5 (by omega) (by omega) (by omega)) (ho 6 (by omega) (by omega) (by omega)) e7 e8 e9 L r2 r3 c n2 n1 hL hT hU hr2, fun t ht e => ?_⟩
    obtain ⟨p, q, rfl, e1, e2⟩ := key t ht e
    rw [hT] at e1
    have h1 := congrArg Prod.fst e1
    have h2 := congrArg Prod.snd e1
    simp only [List.cons.injEq] at h1 h2
    rw [h2.2, e2] at hU
    have h3 := congrArg Prod.fst hU
    simp only at h3
    rw [h1, h3]
theorem reads_3 (s : ByteArray) (hs : s.size ≤ 100000) (h : Lib.hasPrefix s.data.toList (pw 3) = true) : ∃ T, ReadsAs s T ∧ ∀ t : Ty, t.ok = true → t.txt = s.data.toList → T = t := by
  obtain ⟨ho, e7, e8, e9⟩ := only s 3 (by omega) (by omega) h
  have hk := fun t ht e => kind_of (s := s) (k := 3) (by omega) (by omega) h t ht e
  have hb := behind s 3 h
  obtain ⟨L, hL⟩ : ∃ L, s.data.toList.drop (pw 3).length = L := ⟨_, rfl⟩
  rw [hL] at hb
  obtain ⟨n1, r1, hT⟩ : ∃ n r, takeN 3 0 L = (n, r) := ⟨_, _, rfl⟩
  refine ⟨_, rRead_3 s hs (ho 1 (by omega) (by omega) (by omega)) (ho 2 (by omega) (by omega) (by omega)) h (ho 4 (by omega) (by omega) (by omega)) (ho 5 (by omega) (by omega) (by omega)) (ho 6 (by omega) (by omega) (by omega)) e7 e8 e9 L r1 n1 hL hT, fun t ht e => ?_⟩
  have hk' := hk t ht e
  obtain ⟨k, p, q, n, vy, pic⟩ := t
  simp only at hk'
  subst hk'
  obtain ⟨h1, h2, rfl, rfl, rfl, rfl⟩ := ok_3_of ht
  have e2 : Lib.itoa p ++ [41] = L := by
    rw [hb] at e
    refine app_inj (a := pw 3) ?_
    rw [← e]
    simp [Ty.txt, txt, pw, one1]
  rw [← e2, takeN_itoa p (by omega) (by omega) _ (nodig 41 _ (by decide))] at hT
  have h3 := congrArg Prod.fst hT
  simp only at h3
  rw [← h3]
  rfl

theorem reads_4 (s : ByteArray) (hs : s.size ≤ 100000) (h : Lib.hasPrefix s.data.toList (pw 4) = true) : ∃ T, ReadsAs s T ∧ ∀ t : Ty, t.ok = true → t.txt = s.data.toList → T = t := by
  obtain ⟨ho, e7, e8, e9⟩ := only s 4 (by omega) (by omega) h
  have hk := fun t ht e => kind_of (s := s) (k := 4) (by omega) (by omega) h t ht e
  have hb := behind s 4 h
  obtain ⟨L, hL⟩ : ∃ L, s.data.toList.drop (pw 4).length = L := ⟨_, rfl⟩
  rw [hL] at hb
  obtain ⟨n1, r1, hT⟩ : ∃ n r, takeN 3 0 L = (n, r) := ⟨_, _, rfl⟩
  refine ⟨_, rRead_4 s hs (ho 1 (by omega) (by omega) (by omega)) (ho 2 (by omega) (by omega) (by omega)) (ho 3 (by omega) (by omega) (by omega)) h (ho 5 (by omega) (by omega) (by omega)) (ho 6 (by omega) (by omega) (by omega)) e7 e8 e9 L r1 n1 hL hT _ rfl, fun t ht e => ?_⟩
  have hk' := hk t ht e
  obtain ⟨k, p, q, n, vy, pic⟩ := t
  simp only at hk'
  subst hk'
  obtain ⟨rfl, rfl, h1, h2, rfl⟩ := ok_45_of (.inl rfl) ht
  have e2 : Lib.itoa n ++ 41 :: vary vy = L := by
    rw [hb] at e
    refine app_inj (a := pw 4) ?_
    rw [← e]
    simp [Ty.txt, txt, pw, one1]
  rw [← e2, takeN_itoa n (by omega) (by omega) _ (nodig 41 _ (by decide))] at hT
  have h3 := congrArg Prod.fst hT
  have h4 := congrArg Prod.snd hT
  simp only at h3 h4
  have h5 : (r1 == [41, 32, 86, 65, 82]) = vy := by rw [← h4]; cases vy <;> rfl
  rw [← h3, h5]
  rfl

theorem reads_5 (s : ByteArray) (hs : s.size ≤ 100000) (h : Lib.hasPrefix s.data.toList (pw 5) = true) : ∃ T, ReadsAs s T ∧ ∀ t : Ty, t.ok = true → t.txt = s.data.toList → T = t := by
  obtain ⟨ho, e7, e8, e9⟩ := only s 5 (by omega) (by omega) h
  have hk := fun t ht e => kind_of (s := s) (k := 5) (by omega) (by omega) h t ht e
  have hb := behind s 5 h
  obtain ⟨L, hL⟩ : ∃ L, s.data.toList.drop (pw 5).length = L := ⟨_, rfl⟩
  rw [hL] at hb
  obtain ⟨n1, r1, hT⟩ : ∃ n r, takeN 3 0 L = (n, r) := ⟨_, _, rfl⟩
  refine ⟨_, rRead_5 s hs (ho 1 (by omega) (by omega) (by omega)) (ho 2 (by omega) (by omega) (by omega)) (ho 3 (by omega) (by omega) (by omega)) (ho 4 (by omega) (by omega) (by omega)) h (ho 6 (by omega) (by omega) (by omega)) e7 e8 e9 L r1 n1 hL hT _ rfl, fun t ht e => ?_⟩
  have hk' := hk t ht e
  obtain ⟨k, p, q, n, vy, pic⟩ := t
  simp only at hk'
  subst hk'
  obtain ⟨rfl, rfl, h1, h2, rfl⟩ := ok_45_of (.inr rfl) ht
  have e2 : Lib.itoa n ++ 41 :: vary vy = L := by
    rw [hb] at e
    refine app_inj (a := pw 5) ?_
    rw [← e]
    simp [Ty.txt, txt, pw, one1]
  rw [← e2, takeN_itoa n (by omega) (by omega) _ (nodig 41 _ (by decide))] at hT
  have h3 := congrArg Prod.fst hT
  have h4 := congrArg Prod.snd hT
  simp only at h3 h4
  have h5 : (r1 == [41, 32, 86, 65, 82]) = vy := by rw [← h4]; cases vy <;> rfl
  rw [← h3, h5]
  rfl

theorem reads_6 (s : ByteArray) (hs : s.size ≤ 100000) (h : Lib.hasPrefix s.data.toList (pw 6) = true) : ∃ T, ReadsAs s T ∧ ∀ t : Ty, t.ok = true → t.txt = s.data.toList → T = t := by
  obtain ⟨ho, e7, e8, e9⟩ := only s 6 (by omega) (by omega) h
  have hk := fun t ht e => kind_of (s := s) (k := 6) (by omega) (by omega) h t ht e
  have hb := behind s 6 h
  obtain ⟨L, hL⟩ : ∃ L, s.data.toList.drop (pw 6).length = L := ⟨_, rfl⟩
  rw [hL] at hb
  by_cases hlong : s.size ≤ 200
  · refine ⟨_, rRead_6 s hs (ho 1 (by omega) (by omega) (by omega)) (ho 2 (by omega) (by omega) (by omega)) (ho 3 (by omega) (by omega) (by omega)) (ho 4 (by omega) (by omega) (by omega)) (ho 5 (by omega) (by omega) (by omega)) h e7 e8 e9 (bs L) (by rw [← hL]; rfl) hlong, fun t ht e => ?_⟩
    have hk' := hk t ht e
    obtain ⟨k, p, q, n, vy, pic⟩ := t
    simp only at hk'
    subst hk'
    obtain ⟨rfl, rfl, rfl, rfl, h1, h2⟩ := ok_6_of ht
    have e2 : dbl pic.data.toList ++ [39] = L := by
      rw [hb] at e
      refine app_inj (a := pw 6) ?_
      rw [← e]
      simp [Ty.txt, txt, pw]
    have e3 : pairUp (bs L).data.toList = pic.data.toList := by
      show pairUp L = _
      rw [← e2, pairUp_dbl]
    rw [e3]
    rfl
  · refine ⟨_, rRead_6x s hs (ho 1 (by omega) (by omega) (by omega)) (ho 2 (by omega) (by omega) (by omega)) (ho 3 (by omega) (by omega) (by omega)) (ho 4 (by omega) (by omega) (by omega)) (ho 5 (by omega) (by omega) (by omega)) h e7 e8 e9 (by omega), fun t ht e => ?_⟩
    have hk' := hk t ht e
    obtain ⟨k, p, q, n, vy, pic⟩ := t
    simp only at hk'
    subst hk'
    obtain ⟨rfl, rfl, rfl, rfl, h1, h2⟩ := ok_6_of ht
    exfalso
    have e2 := congrArg List.length e
    rw [size_list] at e2
    have e3 := (dbl_length pic.data.toList).2
    rw [size_list] at e3
    simp [Ty.txt, txt, wPic] at e2
    omega

/-- What Read tells of a text: of a valid type's text the type. -/
theorem ref_reads (s : ByteArray) (hs : s.size ≤ 100000) : ∃ T, ReadsAs s T ∧ ∀ t : Ty, t.ok = true → t.txt = s.data.toList → T = t := by
  rcases first_true (fun j => Lib.hasPrefix s.data.toList (pw j)) 6 with hn | ⟨k, h1, h6, hp, _⟩
  · have n1 := hn 1 (by omega) (by omega)
    have n2 := hn 2 (by omega) (by omega)
    have n3 := hn 3 (by omega) (by omega)
    have n4 := hn 4 (by omega) (by omega)
    have n5 := hn 5 (by omega) (by omega)
    have n6 := hn 6 (by omega) (by omega)
    have no : ∀ t : Ty, t.ok = true → t.txt = s.data.toList → (t = ⟨7, 0, 0, 0, false, ⟨#[]⟩⟩ ∧ (s.toList == [80, 84, 82]) = true) ∨ (t = ⟨8, 0, 0, 0, false, ⟨#[]⟩⟩ ∧ (s.toList == [76, 65, 66, 69, 76]) = true) ∨ (t = ⟨9, 0, 0, 0, false, ⟨#[]⟩⟩ ∧ (s.toList == [69, 78, 84, 82, 89]) = true) := by
      intro t ht e
      rcases txt_begins t ht e with ⟨k, k1, k6, _, hp⟩ | h'
      · have := hn k k1 k6
        rw [hp] at this; cases this
      · exact h'
    by_cases q7 : s.toList = [80, 84, 82]
    · refine ⟨_, rRead_7 s hs n1 n2 n3 n4 n5 n6 (by rw [q7]; rfl) (by rw [q7]; rfl) (by rw [q7]; rfl), fun t ht e => ?_⟩
      rcases no t ht e with ⟨rfl, _⟩ | ⟨_, h'⟩ | ⟨_, h'⟩
      · rfl
      · rw [q7] at h'; cases h'
      · rw [q7] at h'; cases h'
    by_cases q8 : s.toList = [76, 65, 66, 69, 76]
    · refine ⟨_, rRead_8 s hs n1 n2 n3 n4 n5 n6 (by rw [q8]; rfl) (by rw [q8]; rfl) (by rw [q8]; rfl), fun t ht e => ?_⟩
      rcases no t ht e with ⟨_, h'⟩ | ⟨rfl, _⟩ | ⟨_, h'⟩
      · rw [q8] at h'; cases h'
      · rfl
      · rw [q8] at h'; cases h'
    by_cases q9 : s.toList = [69, 78, 84, 82, 89]
    · refine ⟨_, rRead_9 s hs n1 n2 n3 n4 n5 n6 (by rw [q9]; rfl) (by rw [q9]; rfl) (by rw [q9]; rfl), fun t ht e => ?_⟩
      rcases no t ht e with ⟨_, h'⟩ | ⟨_, h'⟩ | ⟨rfl, _⟩
      · rw [q9] at h'; cases h'
      · rw [q9] at h'; cases h'
      · rfl
    refine ⟨_, rRead_none s hs n1 n2 n3 n4 n5 n6 (by rw [beq_eq_false_iff_ne]; exact q7) (by rw [beq_eq_false_iff_ne]; exact q8) (by rw [beq_eq_false_iff_ne]; exact q9), fun t ht e => ?_⟩
    rcases no t ht e with ⟨_, h'⟩ | ⟨_, h'⟩ | ⟨_, h'⟩
    · exact absurd (beq_iff_eq.1 h') q7
    · exact absurd (beq_iff_eq.1 h') q8
    · exact absurd (beq_iff_eq.1 h') q9
  · obtain rfl | rfl | rfl | rfl | rfl | rfl : k = 1 ∨ k = 2 ∨ k = 3 ∨ k = 4 ∨ k = 5 ∨ k = 6 := by omega
    · exact reads_1 s hs hp
    · exact reads_2 s hs hp
    · exact reads_3 s hs hp
    · exact reads_4 s hs hp
    · exact reads_5 s hs hp
    · exact reads_6 s hs hp

theorem Read_ref (s : ByteArray) (hs : s.size ≤ 100000) :
    (∃ T : Ty, T.ok = true ∧ T.txt = s.data.toList ∧ ∀ w, Calls Tryz.prog 40 #[.string s] w fun e w' => e = .returned (.tuple #[T.v, .int .i64 0]) ∧ Below w.heap.size w w') ∨
    ((∀ t : Ty, t.ok = true → t.txt ≠ s.data.toList) ∧ ∀ w, Calls Tryz.prog 40 #[.string s] w fun e w' => e = .returned (.tuple #[numV 0 0 0, .int .i64 2]) ∧ Below w.heap.size w w') := by
  obtain ⟨T, hR, hT⟩ := ref_reads s hs
  by_cases hy : T.ok = true ∧ T.txt = s.data.toList
  · refine .inl ⟨T, hy.1, hy.2, fun w => (hR w).mono fun e w' ⟨he, hw⟩ => ⟨?_, hw⟩⟩
    rw [he, (rd_yes hy).1, (rd_yes hy).2]
  · refine .inr ⟨fun t ht e => hy ?_, fun w => (hR w).mono fun e w' ⟨he, hw⟩ => ⟨?_, hw⟩⟩
    · rw [hT t ht e]; exact ⟨ht, e⟩
    · rw [he, (rd_no hy).1, (rd_no hy).2]
end Go.Proofs.YtcekphfmpjdbmaaGreatDoor
