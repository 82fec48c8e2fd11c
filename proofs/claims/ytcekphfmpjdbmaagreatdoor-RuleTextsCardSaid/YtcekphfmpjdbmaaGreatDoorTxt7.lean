/- Package rule: Text. What is written is read. -/
import Derived.Test.YtcekphfmpjdbmaaGreatDoorTxt6
namespace Go.Proofs.YtcekphfmpjdbmaaGreatDoor
open Go.RowKit

set_option maxHeartbeats 1000000 in
theorem cText_13 (k p q n : Int) (vy : Bool) (pic : ByteArray) (w : World) (bt : Nat) (hbox : BoxAt w bt ⟨k, p, q, n, vy, pic⟩) (hs : pic.size ≤ maxLen) (hv : (Ty.mk k p q n vy pic).ok = false) :
    Calls Tryz.prog 99 #[.pointer (some ⟨bt, 0, none⟩)] w fun e w' => e = refusal 13 ∧ Below w.heap.size w w' := by
  have HV := Lib.hid hv; have HS := Lib.hid hs
  have hlt := hbox.lt
  obtain ⟨x0, x1, x2, x3, x4, x5⟩ := hbox.cells
  clear hbox hv hs
  go_enter Tryz.func99, Tryz.ntmps99
  go_wp2_with fail
  go_at_call 70
  refine (demandValid_no [⟨k, p, q, n, vy, pic⟩] w.heap.size 0 1 _ (TysAt_one (heap_alloc_last _ _)) (by simp) (by simp) (pic1 HS.out) (nall1 HV.out)).mono ?_
  rintro e w1 ⟨rfl, hb1⟩
  exact ⟨rfl, rfl, below_then (by go_grown) hb1 (by simp <;> omega)⟩

set_option maxHeartbeats 1000000 in
theorem cText_ok (k p q n : Int) (vy : Bool) (pic : ByteArray) (w : World) (bt : Nat) (hbox : BoxAt w bt ⟨k, p, q, n, vy, pic⟩) (hs : pic.size ≤ maxLen) (hv : (Ty.mk k p q n vy pic).ok = true) (hE : EnvT w) :
    Calls Tryz.prog 99 #[.pointer (some ⟨bt, 0, none⟩)] w fun e w' => e = .returned (.string (bs (Ty.mk k p q n vy pic).txt)) ∧ Below w.heap.size w w' := by
  have HV := Lib.hid hv; have HS := Lib.hid hs; have HE := Lib.hid hE; have HB := Lib.hid hbox
  have hlt := hbox.lt
  obtain ⟨x0, x1, x2, x3, x4, x5⟩ := hbox.cells
  clear hbox hv hs hE
  go_enter Tryz.func99, Tryz.ntmps99
  go_wp2_with fail
  go_at_call 70
  refine (demandValid_ok [⟨k, p, q, n, vy, pic⟩] w.heap.size 0 1 _ (TysAt_one (heap_alloc_last _ _)) (by simp) (by simp) (pic1 HS.out) (all1 HV.out)).mono ?_
  rintro e w1 ⟨rfl, hb1⟩
  have hW := Lib.hid (below_then (by go_grown) hb1 (by simp <;> omega) : Below w.heap.size w w1)
  have HB2 := Lib.hid (HB.out.below hlt hW.out)
  clear hb1 x0 x1 x2 x3 x4 x5
  obtain ⟨x0, x1, x2, x3, x4, x5⟩ := HB2.out.cells
  go_wp2_with fail
  go_at_call 100
  refine (textOf_any ⟨k, p, q, n, vy, pic⟩ _ HV.out (HE.out.below hW.out)).mono ?_
  rintro e w2 ⟨rfl, hb2⟩
  go_wp2
  go_ret
  exact ⟨rfl, below_then hW.out hb2 hW.out.size⟩

set_option maxHeartbeats 1000000 in
theorem Text_13 (k p q n : Int) (vy : Bool) (pic : ByteArray) (w : World) (hs : pic.size ≤ maxLen) (hv : (Ty.mk k p q n vy pic).ok = false) :
    Calls Tryz.prog 37 #[tyV k p q n vy pic] w fun e w' => e = .returned (.tuple #[.string ⟨#[]⟩, .int .i64 13]) ∧ Below w.heap.size w w' := by
  have hmf : ∀ (fn : Fn) (first cap : Array Value) (w : World), (Instr.makeFunc fn first cap).run Tryz.prog w = .ok (.func fn first cap) w := fun _ _ _ _ => rfl
  go_enter Tryz.func37, Tryz.ntmps37
  go_wp2_with fail
  go_at_call 98
  refine (answeredS_no 99 #[.pointer (some ⟨w.heap.size, 0, none⟩)] 13 _ (fun W => by kernel_rfl) (fun W hW => cText_13 k p q n vy pic W w.heap.size (BoxAt.below (t := ⟨k, p, q, n, vy, pic⟩) (heap_alloc_last _ _) (by simp <;> omega) hW) hs hv)).mono ?_
  rintro e w1 ⟨rfl, hb1⟩
  go_wp2
  go_ret2
  exact ⟨rfl, below_then (by go_grown) hb1 (by simp <;> omega)⟩

set_option maxHeartbeats 1000000 in
theorem Text_ok (k p q n : Int) (vy : Bool) (pic : ByteArray) (w : World) (hs : pic.size ≤ maxLen) (hv : (Ty.mk k p q n vy pic).ok = true) (hE : EnvT w) :
    Calls Tryz.prog 37 #[tyV k p q n vy pic] w fun e w' => e = .returned (.tuple #[.string (bs (Ty.mk k p q n vy pic).txt), .int .i64 0]) ∧ Below w.heap.size w w' := by
  have hmf : ∀ (fn : Fn) (first cap : Array Value) (w : World), (Instr.makeFunc fn first cap).run Tryz.prog w = .ok (.func fn first cap) w := fun _ _ _ _ => rfl
  have HE := Lib.hid hE
  clear hE
  go_enter Tryz.func37, Tryz.ntmps37
  go_wp2_with fail
  go_at_call 98
  refine (answeredS_ok 99 #[.pointer (some ⟨w.heap.size, 0, none⟩)] _ _ (fun W => by kernel_rfl) (fun W hW => cText_ok k p q n vy pic W w.heap.size (BoxAt.below (t := ⟨k, p, q, n, vy, pic⟩) (heap_alloc_last _ _) (by simp <;> omega) hW) hs hv (HE.out.below (below_then (by go_grown) hW (by simp <;> omega))))).mono ?_
  rintro e w1 ⟨rfl, hb1⟩
  go_wp2
  go_ret2
  exact ⟨rfl, below_then (by go_grown) hb1 (by simp <;> omega)⟩

/- What is written is read. -/
theorem hasPrefix_self (a b : List UInt8) : Lib.hasPrefix (a ++ b) a = true := by
  unfold Lib.hasPrefix; rw [List.isPrefixOf_iff_prefix]; exact List.prefix_append _ _

/-- A valid type's text: its word, what stands behind it, and no other word begins it. -/
theorem txt_parts (t : Ty) (h : t.ok = true) : ∃ (k : Nat) (r : List UInt8), 1 ≤ k ∧ k ≤ 9 ∧ t.txt = wd k ++ r ∧ readK k r = t ∧ r.length ≤ 1000 ∧ ∀ j, 1 ≤ j → j < k → Lib.hasPrefix t.txt (wd j) = false := by
  obtain ⟨k, p, q, n, vy, pic⟩ := t
  obtain ⟨k1, k9⟩ := ok_kind h
  obtain rfl | rfl | rfl | rfl | rfl | rfl | rfl | rfl | rfl : k = 1 ∨ k = 2 ∨ k = 3 ∨ k = 4 ∨ k = 5 ∨ k = 6 ∨ k = 7 ∨ k = 8 ∨ k = 9 := by omega
  · obtain ⟨h1, h2, h3, h4, rfl, rfl, rfl⟩ := ok_1_of h
    obtain ⟨b1, b2⟩ := fixed_back p q (by omega) (by omega) (by omega) (by omega)
    exact ⟨1, two2 p q, by omega, by omega, rfl, by unfold readK; rw [if_pos (.inl rfl), b1, b2]; rfl, two2_len p q (by omega) (by omega) (by omega) (by omega), fun j h h' => by omega⟩
  · obtain ⟨h1, h2, h3, h4, rfl, rfl, rfl⟩ := ok_2_of h
    obtain ⟨b1, b2⟩ := fixed_back p q (by omega) (by omega) (by omega) (by omega)
    refine ⟨2, two2 p q, by omega, by omega, rfl, by unfold readK; rw [if_pos (.inr rfl), b1, b2]; rfl, two2_len p q (by omega) (by omega) (by omega) (by omega), fun j h h' => ?_⟩
    obtain rfl : j = 1 := by omega
    rfl
  · obtain ⟨h1, h2, rfl, rfl, rfl, rfl⟩ := ok_3_of h
    have b1 := one_back p (by omega) (by omega)
    refine ⟨3, one1 p, by omega, by omega, rfl, by unfold readK; rw [if_neg (by omega), if_pos rfl, b1]; rfl, by have := one1_len p (by omega) (by omega); omega, fun j h h' => ?_⟩
    obtain rfl | rfl : j = 1 ∨ j = 2 := by omega
    all_goals rfl
  · obtain ⟨rfl, rfl, h1, h2, rfl⟩ := ok_45_of (.inl rfl) h
    have b1 := len_back n vy (by omega) (by omega)
    refine ⟨4, one1 n ++ vary vy, by omega, by omega, rfl, by unfold readK; rw [if_neg (by omega), if_neg (by omega), if_pos (.inl rfl), b1]; rfl, by have := one1_len n (by omega) (by omega); have := vary_len vy; simp; omega, fun j h h' => ?_⟩
    obtain rfl | rfl | rfl : j = 1 ∨ j = 2 ∨ j = 3 := by omega
    all_goals rfl
  · obtain ⟨rfl, rfl, h1, h2, rfl⟩ := ok_45_of (.inr rfl) h
    have b1 := len_back n vy (by omega) (by omega)
    refine ⟨5, one1 n ++ vary vy, by omega, by omega, rfl, by unfold readK; rw [if_neg (by omega), if_neg (by omega), if_pos (.inr rfl), b1]; rfl, by have := one1_len n (by omega) (by omega); have := vary_len vy; simp; omega, fun j h h' => ?_⟩
    obtain rfl | rfl | rfl | rfl : j = 1 ∨ j = 2 ∨ j = 3 ∨ j = 4 := by omega
    all_goals rfl
  · obtain ⟨rfl, rfl, rfl, rfl, h1, h2⟩ := ok_6_of h
    refine ⟨6, 39 :: (dbl pic.data.toList ++ [39]), by omega, by omega, rfl, by unfold readK; rw [if_neg (by omega), if_neg (by omega), if_neg (by omega), if_pos rfl, pic_back]; rfl, by have := (dbl_length pic.data.toList).2; rw [size_list] at this; simp; omega, fun j h h' => ?_⟩
    obtain rfl | rfl | rfl | rfl | rfl : j = 1 ∨ j = 2 ∨ j = 3 ∨ j = 4 ∨ j = 5 := by omega
    all_goals rfl
  · obtain ⟨rfl, rfl, rfl, rfl, rfl⟩ := ok_789_of (by omega) h
    refine ⟨7, [], by omega, by omega, rfl, rfl, by simp, fun j h h' => ?_⟩
    obtain rfl | rfl | rfl | rfl | rfl | rfl : j = 1 ∨ j = 2 ∨ j = 3 ∨ j = 4 ∨ j = 5 ∨ j = 6 := by omega
    all_goals rfl
  · obtain ⟨rfl, rfl, rfl, rfl, rfl⟩ := ok_789_of (by omega) h
    refine ⟨8, [], by omega, by omega, rfl, rfl, by simp, fun j h h' => ?_⟩
    obtain rfl | rfl | rfl | rfl | rfl | rfl | rfl : j = 1 ∨ j = 2 ∨ j = 3 ∨ j = 4 ∨ j = 5 ∨ j = 6 ∨ j = 7 := by omega
    all_goals rfl
  · obtain ⟨rfl, rfl, rfl, rfl, rfl⟩ := ok_789_of (by omega) h
    refine ⟨9, [], by omega, by omega, rfl, rfl, by simp, fun j h h' => ?_⟩
    obtain rfl | rfl | rfl | rfl | rfl | rfl | rfl | rfl : j = 1 ∨ j = 2 ∨ j = 3 ∨ j = 4 ∨ j = 5 ∨ j = 6 ∨ j = 7 ∨ j = 8 := by omega
    all_goals rfl

theorem first_true (f : Nat → Bool) : ∀ n, (∀ j, 1 ≤ j → j ≤ n → f j = false) ∨ ∃ k, 1 ≤ k ∧ k ≤ n ∧ f k = true ∧ ∀ j, 1 ≤ j → j < k → f j = false := by
  intro n
  induction n with
  | zero => exact .inl fun j h h' => by omega
  | succ n ih =>
    rcases ih with h | ⟨k, h1, h2, h3, h4⟩
    · cases hf : f (n + 1) with
      | false =>
        refine .inl fun j h1 h2 => ?_
        by_cases e : j = n + 1
        · rw [e]; exact hf
        · exact h j h1 (by omega)
      | true => exact .inr ⟨n + 1, by omega, by omega, hf, fun j h1 h2 => h j h1 (by omega)⟩
    · exact .inr ⟨k, h1, by omega, h3, h4⟩

theorem replaceK_len (old new : List UInt8) : ∀ (k : Nat) (s : List UInt8), (Lib.replaceK old new k s).length ≤ s.length + k * new.length := by
  intro k
  induction k with
  | zero => intro s; simp [Lib.replaceK]
  | succ k ih =>
    intro s
    rw [Lib.replaceK]
    split
    · omega
    · have := ih (s.drop ((Lib.index s old).toNat + old.length))
      rw [List.length_append, List.length_append, List.length_take, Nat.succ_mul]
      rw [List.length_drop] at this
      omega
theorem picL_len (r : List UInt8) : (picL r).length ≤ 2 * r.length + 1 := by
  unfold picL Lib.replaceAll Lib.replace
  rw [if_neg (by decide)]
  have e : Lib.replaceNum (Lib.trimSuffix (Lib.trimPrefix r [39]) [39]) [39, 39] (-1) = Lib.count (Lib.trimSuffix (Lib.trimPrefix r [39]) [39]) [39, 39] := by simp [Lib.replaceNum]
  rw [e]
  have h1 := replaceK_len [39, 39] [39] (Lib.count (Lib.trimSuffix (Lib.trimPrefix r [39]) [39]) [39, 39]) (Lib.trimSuffix (Lib.trimPrefix r [39]) [39])
  have h2 := Lib.count_le (Lib.trimSuffix (Lib.trimPrefix r [39]) [39]) [39, 39]
  have h3 := trimSuffix_len (Lib.trimPrefix r [39]) [39]
  have h4 := trimPrefix_len r [39]
  simp only [List.length_singleton, Nat.mul_one] at h1
  omega
theorem readK_pic (k : Nat) (r : List UInt8) : (readK k r).pic.size ≤ 2 * r.length + 1 := by
  unfold readK
  split
  · show 0 ≤ _; omega
  · split
    · show 0 ≤ _; omega
    · split
      · show 0 ≤ _; omega
      · split
        · exact picL_len r
        · show 0 ≤ _; omega

/-- What likely tells of any text; of a type's text it is the type. -/
theorem likely_is (s : ByteArray) (hs : s.size ≤ 100000) : ∃ T, Likely s T ∧ ∀ t : Ty, t.ok = true → t.txt = s.data.toList → T = t := by
  rcases first_true (fun j => Lib.hasPrefix s.data.toList (wd j)) 9 with hn | ⟨k, h1, h9, hp, hn⟩
  · refine ⟨zTy', ⟨pic0, fun w _ => likely_none s w hn⟩, fun t ht e => ?_⟩
    obtain ⟨k, r, h1, h9, e1, _, _, _⟩ := txt_parts t ht
    have := hn k h1 h9
    rw [← e, e1] at this
    simp only [hasPrefix_self] at this
    cases this
  · have hpic : (readK k (Lib.trimPrefix s.data.toList (wd k))).pic.size ≤ maxLen := by
      have h := readK_pic k (Lib.trimPrefix s.data.toList (wd k))
      have h' := trimPrefix_len s.data.toList (wd k)
      rw [size_list] at h'
      unfold maxLen; omega
    refine ⟨_, ⟨hpic, fun w hE => likely_some k h1 h9 s w hs hE hp hn⟩, fun t ht e => ?_⟩
    obtain ⟨k', r, h1', h9', e1, e2, _, hn'⟩ := txt_parts t ht
    have hp' : Lib.hasPrefix s.data.toList (wd k') = true := by rw [← e, e1]; exact hasPrefix_self _ _
    have hk : k = k' := by
      rcases Nat.lt_trichotomy k k' with hlt | he | hgt
      · have := hn' k h1 hlt; rw [e] at this; rw [hp] at this; cases this
      · exact he
      · have := hn k' h1' hgt; rw [hp'] at this; cases this
    subst hk
    rw [← e, e1, trimPrefix_self]
    exact e2

theorem Read_rule (s : ByteArray) (hs : s.size ≤ 100000) :
    (∃ T : Ty, T.ok = true ∧ T.txt = s.data.toList ∧ ∀ w, EnvT w → Calls Tryz.prog 39 #[.string s] w fun e w' => e = .returned (.tuple #[T.v, .int .i64 0]) ∧ Below w.heap.size w w') ∨
    ((∀ t : Ty, t.ok = true → t.txt ≠ s.data.toList) ∧ ∀ w, EnvT w → Calls Tryz.prog 39 #[.string s] w fun e w' => e = .returned (.tuple #[numV 0 0 0, .int .i64 2]) ∧ Below w.heap.size w w') := by
  obtain ⟨T, hL, hT⟩ := likely_is s hs
  cases hv : T.ok with
  | false =>
    refine .inr ⟨fun t h e => ?_, fun w hE => Read_no s 2 w fun W hW => readType_bad s T W hL (hE.below hW) hv⟩
    rw [hT t h e] at hv; rw [h] at hv; cases hv
  | true =>
    by_cases ht : T.txt = s.data.toList
    · exact .inl ⟨T, hv, ht, fun w hE => Read_ok s T w fun W hW => readType_yes s T W hL (hE.below hW) hv ht⟩
    · refine .inr ⟨fun t h e => ht ?_, fun w hE => Read_no s 2 w fun W hW => readType_other s T W hL (hE.below hW) hv ht⟩
      rw [hT t h e]; exact e
end Go.Proofs.YtcekphfmpjdbmaaGreatDoor
