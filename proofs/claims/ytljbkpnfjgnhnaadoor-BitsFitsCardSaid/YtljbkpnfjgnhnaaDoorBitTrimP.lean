/- Blanks that are taken away at both ends, and a list that is built from behind: no program in this text. -/
import Derived.Test.YtljbkpnfjgnhnaaDoorBitPure
namespace Go.Proofs.YtljbkpnfjgnhnaaDoor

def dropR (l : List UInt8) : List UInt8 := (dropB l.reverse).reverse
theorem trimL_eq (l : List UInt8) : trimL l = dropB (dropR l) := rfl
theorem dropB_cons (c : UInt8) (l : List UInt8) : dropB (c :: l) = if c = 32 then dropB l else c :: l := rfl
theorem dropB_blank {p : List UInt8} (h : ∀ c ∈ p, c = 32) (l : List UInt8) : dropB (p ++ l) = dropB l := by
  induction p with
  | nil => rfl
  | cons c p ih =>
    rw [List.cons_append, dropB_cons, if_pos (h c (List.mem_cons_self ..))]
    exact ih fun d hd => h d (List.mem_cons_of_mem _ hd)
theorem dropB_all {p : List UInt8} (h : ∀ c ∈ p, c = 32) : dropB p = [] := by
  have := dropB_blank h []
  rwa [List.append_nil] at this
theorem dropR_blank {q : List UInt8} (h : ∀ c ∈ q, c = 32) (l : List UInt8) : dropR (l ++ q) = dropR l := by
  unfold dropR
  rw [List.reverse_append, dropB_blank (fun c hc => h c (List.mem_reverse.1 hc))]
theorem dropR_snoc (l : List UInt8) (c : UInt8) : dropR (l ++ [c]) = if c = 32 then dropR l else l ++ [c] := by
  unfold dropR
  rw [List.reverse_append, List.reverse_singleton, List.singleton_append, dropB_cons]
  split
  · rfl
  · rw [List.reverse_cons, List.reverse_reverse]
theorem dropR_nil : dropR [] = [] := rfl
/-- The middle between blanks on both sides. -/
theorem trim_mid {p m q : List UInt8} (hp : ∀ c ∈ p, c = 32) (hq : ∀ c ∈ q, c = 32) (h0 : ∀ c t, m = c :: t → c ≠ 32) (h1 : ∀ t c, m = t ++ [c] → c ≠ 32) : trimL (p ++ m ++ q) = m := by
  rw [trimL_eq, dropR_blank hq]
  rcases List.eq_nil_or_concat m with rfl | ⟨t, c, rfl⟩
  · rw [List.append_nil]
    have e : dropR p = [] := by
      have := dropR_blank hp []
      rwa [List.nil_append] at this
    rw [e]; rfl
  · rw [List.concat_eq_append] at *
    rw [← List.append_assoc, dropR_snoc, if_neg (h1 t c rfl), List.append_assoc, dropB_blank hp]
    cases t with
    | nil => rw [List.nil_append, dropB_cons, if_neg (h1 [] c rfl)]
    | cons d t => rw [List.cons_append, dropB_cons, if_neg (h0 d (t ++ [c]) rfl)]
/-- The same by two places. -/
theorem trim_at {l : List UInt8} {a b : Nat} (hab : a ≤ b) (hb : b ≤ l.length) (ha1 : ∀ i (h : i < l.length), i < a → l[i] = 32) (hb1 : ∀ i (h : i < l.length), b ≤ i → l[i] = 32)
    (ha2 : ∀ h : a < l.length, a < b → l[a] ≠ 32) (hb2 : ∀ i (h : i < l.length), i + 1 = b → a < b → l[i] ≠ 32) : trimL l = (l.drop a).take (b - a) := by
  have e : l = l.take a ++ (l.drop a).take (b - a) ++ l.drop b := by
    rw [List.append_assoc]
    have h2 : (l.drop a).take (b - a) ++ l.drop b = l.drop a := by
      have := List.take_append_drop (b - a) (l.drop a)
      rwa [List.drop_drop, show a + (b - a) = b by omega] at this
    rw [h2, List.take_append_drop]
  have hlen : ((l.drop a).take (b - a)).length = b - a := by rw [List.length_take, List.length_drop]; omega
  have key := trim_mid (p := l.take a) (m := (l.drop a).take (b - a)) (q := l.drop b) (by
    intro c hc
    obtain ⟨i, hi, rfl⟩ := List.getElem_of_mem hc
    rw [List.length_take] at hi
    rw [List.getElem_take]
    exact ha1 i (by omega) (by omega)) (by
    intro c hc
    obtain ⟨i, hi, rfl⟩ := List.getElem_of_mem hc
    rw [List.length_drop] at hi
    rw [List.getElem_drop]
    exact hb1 (b + i) (by omega) (by omega)) (by
    intro c t hm
    have hne : 0 < b - a := by rw [← hlen, hm]; exact Nat.succ_pos _
    have h0 : ((l.drop a).take (b - a))[0]'(by rw [hlen]; exact hne) = c := by simp only [hm, List.getElem_cons_zero]
    rw [List.getElem_take, List.getElem_drop] at h0
    rw [← h0]
    exact ha2 (by omega) (by omega)) (by
    intro t c hm
    have hl : b - a = t.length + 1 := by rw [← hlen, hm]; simp
    have h0 : ((l.drop a).take (b - a))[t.length]'(by rw [hlen]; omega) = c := by simp only [hm]; simp
    rw [List.getElem_take, List.getElem_drop] at h0
    rw [← h0]
    exact hb2 (a + t.length) (by omega) (by omega) (by omega))
  rw [← e] at key
  exact key
theorem dropB_len (l : List UInt8) : (dropB l).length ≤ l.length := by
  induction l with
  | nil => exact Nat.le_refl _
  | cons c l ih =>
    rw [dropB_cons]; split
    · rw [List.length_cons]; omega
    · exact Nat.le_refl _
theorem dropR_len (l : List UInt8) : (dropR l).length ≤ l.length := by
  unfold dropR
  rw [List.length_reverse]
  have := dropB_len l.reverse
  rwa [List.length_reverse] at this
theorem trimL_len (l : List UInt8) : (trimL l).length ≤ l.length := Nat.le_trans (dropB_len _) (dropR_len _)
end Go.Proofs.YtljbkpnfjgnhnaaDoor
