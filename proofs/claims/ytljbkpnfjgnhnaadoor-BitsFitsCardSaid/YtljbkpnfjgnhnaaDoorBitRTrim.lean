/- The document's ValidType, Reverse, Trim. -/
import Derived.Test.YtljbkpnfjgnhnaaDoorBitTrim
import Derived.Test.YtljbkpnfjgnhnaaDoorBitMake1
import Derived.Test.YtljbkpnfjgnhnaaDoorBitRSub
import Derived.Test.YtljbkpnfjgnhnaaDoorBitCmp2
namespace Go.Proofs.YtljbkpnfjgnhnaaDoor
open Go.RowKit

theorem Row.sixT {w : World} {b : Nat} {a0 a1 a2 a3 a4 a5 : Value} {t : TypeId} (h : Row w b #[a0, a1, a2, a3, a4, a5] t) :
    w.cell? ⟨b, 0, none⟩ = some a0 ∧ w.cell? ⟨b, 1, none⟩ = some a1 ∧ w.cell? ⟨b, 2, none⟩ = some a2 ∧ w.cell? ⟨b, 3, none⟩ = some a3 ∧ w.cell? ⟨b, 4, none⟩ = some a4 ∧ w.cell? ⟨b, 5, none⟩ = some a5 := ⟨h.at 0, h.at 1, h.at 2, h.at 3, h.at 4, h.at 5⟩
theorem okY_dec (k p q n : Int) (pic : List UInt8) : okY k p q n pic = ((k == 4 || k == 5) && decide (0 ≤ n) && decide (n ≤ 250) && (p == 0 && q == 0 && pic == [])) := rfl

set_option maxRecDepth 100000 in
set_option maxHeartbeats 2000000 in
theorem rValidType_any (k p q n : Int) (vy : Bool) (pic : ByteArray) (w : World) :
    Calls Tryd.prog 11 #[tyV k p q n vy pic] w fun e w' => e = .returned (.bool (okY k p q n pic.data.toList)) ∧ Below w.heap.size w w' := by
  rw [okY_dec]
  have hpic : (pic.data.toList == []) = (pic.toList == []) := by rw [ByteArray.toList_eq]
  rw [hpic]
  clear hpic
  have RT := Row.new w (tyC k p q n vy pic) 25
  obtain ⟨t0, t1, t2, t3, t4, t5⟩ := RT.sixT
  by_cases hk : (k == 4 || k == 5) = true
  · by_cases hn : 0 ≤ n
    · by_cases hn2 : n ≤ 250
      · cases hp : (p == 0)
        · rcases (by simpa using hk : k = 4 ∨ k = 5) with rfl | rfl
          all_goals
            go_enter Tryd.func11, Tryd.ntmps11
            go_wp2
            go_ret
            exact ⟨ret_bool (by simp [hn, hn2]), by go_grown⟩
        · cases hq : (q == 0)
          · rcases (by simpa using hk : k = 4 ∨ k = 5) with rfl | rfl
            all_goals
              go_enter Tryd.func11, Tryd.ntmps11
              go_wp2
              go_ret
              exact ⟨ret_bool (by simp [hn, hn2]), by go_grown⟩
          · rcases (by simpa using hk : k = 4 ∨ k = 5) with rfl | rfl
            all_goals
              go_enter Tryd.func11, Tryd.ntmps11
              go_wp2
              go_ret
              exact ⟨ret_bool (by simp [hn, hn2]), by go_grown⟩
      · have hn3 : 250 < n := by omega
        have d1 : decide (n ≤ 250) = false := decide_eq_false hn2
        rcases (by simpa using hk : k = 4 ∨ k = 5) with rfl | rfl
        all_goals
          go_enter Tryd.func11, Tryd.ntmps11
          go_wp2
          go_ret
          exact ⟨ret_bool (by simp), by go_grown⟩
    · have hn3 : n < 0 := by omega
      have d1 : decide (0 ≤ n) = false := decide_eq_false hn
      rcases (by simpa using hk : k = 4 ∨ k = 5) with rfl | rfl
      all_goals
        go_enter Tryd.func11, Tryd.ntmps11
        go_wp2
        go_ret
        exact ⟨ret_bool (by simp), by go_grown⟩
  · have k4 : (k == 4) = false := by
      cases h : (k == 4)
      · rfl
      · rw [h] at hk; exact absurd rfl hk
    have k5 : (k == 5) = false := by
      cases h : (k == 5)
      · rfl
      · rw [h] at hk; simp at hk
    clear hk
    go_enter Tryd.func11, Tryd.ntmps11
    go_wp2
    go_ret
    exact ⟨ret_bool (by simp [k4, k5]), by go_grown⟩

set_option maxRecDepth 100000 in
set_option maxHeartbeats 4000000 in
theorem rRev_any (a : Vl) (w : World) (hs : a.s.size ≤ maxLen) :
    Calls Tryd.prog 15 #[a.v] w fun e w' => e = .returned (.tuple #[orV (strE a) a.k (a.s.data.toList.reverse), .int .i64 (strE a)]) ∧ Below w.heap.size w w' := by
  have RA := (Row.new w (vlC a.k a.n a.q a.s) 23).alloc (.cells (vlC 0 0 0 ⟨#[]⟩) 23)
  have RZ := Row.new2 w (.cells (vlC a.k a.n a.q a.s) 23) (vlC 0 0 0 ⟨#[]⟩) 23
  have HS := Lib.hid hs
  clear hs
  cases ho : a.ok with
  | false =>
    have e0 : strE a = 1 := by rw [strE, ho]; rfl
    have HO : Hid (okV a.k a.n a.q a.s.data.toList = false) := Lib.hid ho
    rw [e0]
    clear e0 ho
    show Calls _ _ _ _ fun e w' => e = .returned (.tuple #[vlV 0 0 0 ⟨#[]⟩, .int .i64 1]) ∧ Below w.heap.size w w'
    go_enter Tryd.func15, Tryd.ntmps15
    go_wp2_with (go_at_call 9; refine (rValid_b false _ _ _ _ _ HS.out HO.out).mono ?_; rintro e w1 ⟨rfl, hb1⟩; have B1 := Lib.hid (bl_box2 (Below.refl _ w) hb1); have Z1 := RZ.keep hb1; obtain ⟨z0, z1, z2, z3⟩ := Z1.four; have f0 := Z1.free 0; have f1 := Z1.free 1; have f2 := Z1.free 2; have f3 := Z1.free 3)
    refine bodyPost_ret (v := .tuple #[vlV 0 0 0 ⟨#[]⟩, .int .i64 1]) (by simp [results, Tryd.results15, go_sem, z0, z1, z2, z3]) rfl ⟨rfl, ?_⟩
    (repeat refine Below.setCell ?_ (by simp <;> omega) _)
    exact B1.out
  | true =>
    have e0 : strE a = 0 := by rw [strE, ho]; rfl
    have la := vl_room2 a ho
    have HO : Hid (okV a.k a.n a.q a.s.data.toList = true) := Lib.hid ho
    have hl : (a.s.data.toList).length = a.s.size := lsz _
    have HL := Lib.hid hl
    rw [e0]
    obtain ⟨G, hG⟩ : ∃ G : Nat → List UInt8, G = fun j => (a.s.data.toList.take j).reverse := ⟨_, rfl⟩
    have g0 : Hid (⟨#[]⟩ = bsz (G 0)) := Lib.hid (by rw [hG]; rfl)
    have gl : Hid (∀ j, j ≤ a.s.size → (G j).length = j) := by
      show ∀ _, _
      intro j hj
      rw [hG]; show ((a.s.data.toList.take j).reverse).length = j
      rw [List.length_reverse, List.length_take, hl]; omega
    have gs : Hid (∀ j (h : j < a.s.size), [a.s[j]] ++ G j = G (j + 1)) := by
      show ∀ _, _
      intro j h
      rw [hG]; show [a.s[j]] ++ (a.s.data.toList.take j).reverse = (a.s.data.toList.take (j + 1)).reverse
      rw [List.take_succ_eq_append_getElem (by rw [hl]; exact h), List.reverse_append]; rfl
    have ge : Hid (a.s.data.toList.reverse = G a.s.size) := Lib.hid (by rw [hG]; show _ = (a.s.data.toList.take a.s.size).reverse; rw [List.take_of_length_le (by rw [hl]; exact Nat.le_refl _)])
    rw [ge.out]
    clear e0 ho hl hG
    show Calls _ _ _ _ fun e w' => e = .returned (.tuple #[vlV a.k 0 0 (bsz (G a.s.size)), .int .i64 0]) ∧ Below w.heap.size w w'
    go_enter Tryd.func15, Tryd.ntmps15
    go_wp2_with (go_at_call 9; refine (rValid_b true _ _ _ _ _ HS.out HO.out).mono ?_; rintro e w1 ⟨rfl, hb1⟩; have B1 := Lib.hid (bl_box2 (Below.refl _ w) hb1); have Z1 := RZ.keep hb1; have A1 := RA.keep hb1; obtain ⟨x0, x1, x2, x3⟩ := A1.four; clear hb1)
    go_loop [4, 5] (fun o v => ∃ j : Nat, j ≤ a.s.size ∧ v = .int .i64 j ∧ o = .string (bsz (G j))) (fun _ v => a.s.size - (intOf v).toNat)
    case atStart => exact ⟨0, Nat.zero_le _, rfl, by rw [← g0.out]⟩
    case round =>
      obtain ⟨j, hj, rfl, rfl⟩ := hrel
      by_cases hlt : j < a.s.size
      · have hx := ext_one a.s j hlt
        have s1 : ∀ W, (Op.stringOp .add (a.s.extract j (j + 1)) (bsz (G j))).run Tryd.prog W = .ok (.string (bsz (G (j + 1)))) W := fun W => by
          rw [hx]; exact bsadd [a.s[j]] (G j) _ (gs.out j hlt) (by simp) (by rw [gl.out j (by omega)]; omega) W
        clear hx
        go_wp2
        go_round
        case rel => exact ⟨j + 1, by omega, by go_num, rfl⟩
        case measure => simp [intOf]; omega
      · obtain rfl : j = a.s.size := by omega
        go_wp2_with (go_at_call 31; refine (made_any _ _ _).mono ?_; rintro e w2 ⟨rfl, hb2⟩; have B2 := Lib.hid (bl_then B1.out hb2); have Z2 := Z1.keep hb2; obtain ⟨z0, z1, z2, z3⟩ := Z2.four; have f0 := Z2.free 0; have f1 := Z2.free 1; have f2 := Z2.free 2; have f3 := Z2.free 3)
        refine bodyPost_ret (v := .tuple #[vlV a.k 0 0 (bsz (G a.s.size)), .int .i64 0]) (by simp [results, Tryd.results15, go_sem, z0, z1, z2, z3]) rfl ⟨rfl, ?_⟩
        (repeat refine Below.setCell ?_ (by simp <;> omega) _)
        exact B2.out

theorem ext_trim (s : ByteArray) (i b : Nat) (hib : i ≤ b) (hb : b ≤ s.size) (h1 : ∀ j (h : j < s.size), j < i → s[j] = 32) (h2 : ∀ j (h : j < s.size), b ≤ j → s[j] = 32)
    (h3 : ∀ h : i < s.size, i < b → s[i] ≠ 32) (h4 : ∀ m (h : m < s.size), m + 1 = b → i < b → s[m] ≠ 32) : s.extract i b = bsz (trimL s.data.toList) := by
  have e : (s.extract i b).data.toList = (s.data.toList.drop i).take (b - i) := by rw [Lib.extract_data]
  have k := trim_at (l := s.data.toList) hib (by rw [lsz]; exact hb) (fun j h hj => h1 j (by rw [lsz] at h; exact h) hj) (fun j h hj => h2 j (by rw [lsz] at h; exact h) hj)
    (fun h hj => h3 (by rw [lsz] at h; exact h) hj) (fun m h hm hj => h4 m (by rw [lsz] at h; exact h) hm hj)
  rw [k, ← e]

set_option maxRecDepth 100000 in
set_option maxHeartbeats 4000000 in
theorem rTrim_any (a : Vl) (w : World) (hs : a.s.size ≤ maxLen) :
    Calls Tryd.prog 13 #[a.v] w fun e w' => e = .returned (.tuple #[orV (kindE1 4 a) 4 (trimL a.s.data.toList), .int .i64 (kindE1 4 a)]) ∧ Below w.heap.size w w' := by
  have RA := ((Row.new w (vlC a.k a.n a.q a.s) 23).alloc (.cells (vlC 0 0 0 ⟨#[]⟩) 23)).alloc (.cells (vlC a.k a.n a.q a.s) 23)
  have RZ := (Row.new2 w (.cells (vlC a.k a.n a.q a.s) 23) (vlC 0 0 0 ⟨#[]⟩) 23).alloc (.cells (vlC a.k a.n a.q a.s) 23)
  have H1 := Lib.hid hs
  clear hs
  by_cases h0 : kindE1 4 a = 0
  · obtain ⟨oa, ka⟩ := kindE1_ok h0
    have la := vl_room2 a oa
    have HE := Lib.hid h0
    have KA := Lib.hid ka
    rw [h0]
    clear oa ka h0
    show Calls _ _ _ _ fun e w' => e = .returned (.tuple #[vlV 4 0 0 (bsz (trimL a.s.data.toList)), .int .i64 0]) ∧ Below w.heap.size w w'
    rw [← KA.out]
    go_enter Tryd.func13, Tryd.ntmps13
    go_wp2_with (go_at_call 30; refine (rStr1k_any 4 (by decide) a (w.heap.size + 1 + 1) 1 _ H1.out (VlsAt.one (Row.new3 _ _ _ _ _)) (by simp)).mono ?_; rw [HE.out]; rintro e w1 ⟨rfl, hb1⟩; have B1 := Lib.hid (bl_box3 (Below.refl _ w) hb1); have A1 := RA.keep hb1; have Z1 := RZ.keep hb1; obtain ⟨x0, x1, x2, x3⟩ := A1.four; clear hb1)
    go_wp2
    go_quiet (fail)
    go_wp2
    go_loopw [5] (fun v wr => ∃ i : Nat, i ≤ a.s.size ∧ v = .int .i64 i ∧ Hid (∀ j (h : j < a.s.size), j < i → a.s[j] = 32) ∧ Row wr w.heap.size (vlC a.k a.n a.q a.s) 23 ∧ Row wr (w.heap.size + 1) (vlC 0 0 0 ⟨#[]⟩) 23 ∧ Below w.heap.size w wr) (fun v _ => a.s.size - (intOf v).toNat)
    case atStart => exact ⟨0, Nat.zero_le _, rfl, fun j h hj => absurd hj (Nat.not_lt_zero _), A1, Z1, bl_dN B1.out _⟩
    case round =>
      obtain ⟨i, hi, rfl, HF, hA, hZ, hB⟩ := hrel
      obtain ⟨x0, x1, x2, x3⟩ := hA.four
      have HB := Lib.hid hB
      clear hB
      by_cases hlt : i < a.s.size
      · have i1 : (i : Int) < a.s.size := by omega
        by_cases hc : a.s[i] = 32
        · have e1 : ((a.s[i].toNat : Int) == 32) = true := by rw [hc]; rfl
          have e2 : (a.s[i].toNat == 32) = true := by rw [hc]; rfl
          have HF2 : Hid (∀ j (h : j < a.s.size), j < i + 1 → a.s[j] = 32) := Lib.hid fun j h hj => by
            by_cases e : j = i
            · subst e; exact hc
            · exact HF.out j h (by omega)
          clear hc HF
          go_wp2
          go_roundw
          case rel => exact ⟨i + 1, by omega, by go_num, HF2, hA, hZ, HB.out⟩
          case measure => simp [intOf]; omega
        · have hne : a.s[i].toNat ≠ 32 := fun e => hc (UInt8.toNat_inj.1 e)
          have e1 : ((a.s[i].toNat : Int) == 32) = false := by rw [beq_eq_false_iff_ne]; omega
          have e2 : (a.s[i].toNat == 32) = false := by rw [beq_eq_false_iff_ne]; exact hne
          have H3 : Hid (∀ h : i < a.s.size, a.s[i] ≠ 32) := Lib.hid fun _ => hc
          clear hc hne
          go_wp2
          go_loopw [6] (fun v wr => ∃ b : Nat, i ≤ b ∧ b ≤ a.s.size ∧ v = .int .i64 b ∧ Hid (∀ j (h : j < a.s.size), b ≤ j → a.s[j] = 32) ∧ Row wr w.heap.size (vlC a.k a.n a.q a.s) 23 ∧ Row wr (w.heap.size + 1) (vlC 0 0 0 ⟨#[]⟩) 23 ∧ Below w.heap.size w wr) (fun v _ => (intOf v).toNat)
          case atStart => exact ⟨a.s.size, hi, Nat.le_refl _, rfl, fun j h hj => absurd h (Nat.not_lt.2 hj), hA, hZ, HB.out⟩
          case round =>
            obtain ⟨b, hib, hbs, rfl, HG, hA2, hZ2, hB2⟩ := hrel
            obtain ⟨x0, x1, x2, x3⟩ := hA2.four
            have HB2 := Lib.hid hB2
            clear hB2
            have j1 : (i : Int) ≤ b := by omega
            have j2 : (b : Int) ≤ a.s.size := by omega
            have j0 : (0 : Int) ≤ i := by omega
            by_cases hb : i < b
            · obtain ⟨m, rfl⟩ : ∃ m, b = m + 1 := ⟨b - 1, by omega⟩
              have hm : m < a.s.size := by omega
              have j3 : (m : Int) < a.s.size := by omega
              have hw : IntKind.i64.wrap (((m + 1 : Nat) : Int) - 1) = m := by rw [show ((m + 1 : Nat) : Int) - 1 = m by omega]; exact IntWalk.i64_in _ (by omega)
              have j4 : ((m + 1 : Nat) : Int) = (m : Int) + 1 := by omega
              have j5 : (i : Int) < (m : Int) + 1 := by omega
              have j7 : (i : Int) ≤ (m : Int) + 1 := by omega
              have j8 : (m : Int) + 1 ≤ a.s.size := by omega
              by_cases hc : a.s[m] = 32
              · have e1 : ((a.s[m].toNat : Int) == 32) = true := by rw [hc]; rfl
                have e2 : (a.s[m].toNat == 32) = true := by rw [hc]; rfl
                have HG2 : Hid (∀ j (h : j < a.s.size), m ≤ j → a.s[j] = 32) := Lib.hid fun j h hj => by
                  by_cases e : j = m
                  · subst e; exact hc
                  · exact HG.out j h (by omega)
                clear hc HG
                go_wp2
                go_roundw
                case rel => exact ⟨m, by omega, by omega, by go_num, HG2, hA2, hZ2, HB2.out⟩
                case measure => simp [intOf] <;> omega
              · have hne : a.s[m].toNat ≠ 32 := fun e => hc (UInt8.toNat_inj.1 e)
                have e1 : ((a.s[m].toNat : Int) == 32) = false := by rw [beq_eq_false_iff_ne]; omega
                have e2 : (a.s[m].toNat == 32) = false := by rw [beq_eq_false_iff_ne]; exact hne
                obtain ⟨b, hbm⟩ : ∃ b, b = m + 1 := ⟨_, rfl⟩
                have HX : Hid (a.s.extract i (m + 1) = bsz (trimL a.s.data.toList)) := Lib.hid (ext_trim a.s i (m + 1) (by omega) hbs HF.out HG.out (fun h _ => H3.out h) (fun m' h hm' _ => by
                  obtain rfl : m' = m := by omega
                  exact hc))
                clear hc hne hbm
                go_wp2
                go_region_held3 (fun w' => w'.cell? ⟨w.heap.size, 0, none⟩ = some (.int .i64 a.k) ∧ w'.cell? ⟨w.heap.size, 3, none⟩ = some (.string a.s))
                  (first | go_keep | exact ⟨A3.four.1, A3.four.2.2.2⟩)
                  (first | (go_at_call 31; refine (made_any _ _ _).mono ?_; rintro e w3 ⟨rfl, hb3⟩; have A3 := hA2.keep (bl_drew hb3); have Z3 := hZ2.keep (bl_drew hb3); obtain ⟨z0, z1, z2, z3⟩ := Z3.four; have f0 := Z3.free 0; have f1 := Z3.free 1; have f2 := Z3.free 2; have f3 := Z3.free 3))
                go_wp2
                refine bodyPost_ret (v := .tuple #[vlV a.k 0 0 (a.s.extract i (m + 1)), .int .i64 0]) (by simp [results, Tryd.results13, go_sem, z0, z1, z2, z3]) rfl ⟨by rw [HX.out], ?_⟩
                (repeat refine Below.setCell ?_ (by simp <;> omega) _)
                exact bl_then HB2.out (bl_drew hb3)
            · have d5 : decide ((i : Int) < b) = false := by simp only [decide_eq_false_iff_not]; omega
              have d6 : decide (i < b) = false := decide_eq_false hb
              have j6 : (b : Int) ≤ i := by omega
              have HX : Hid (a.s.extract i b = bsz (trimL a.s.data.toList)) := Lib.hid (ext_trim a.s i b hib hbs HF.out HG.out (fun h _ => H3.out h) (fun m' h hm' h' => absurd h' hb))
              clear hb
              go_wp2
              go_region_held3 (fun w' => w'.cell? ⟨w.heap.size, 0, none⟩ = some (.int .i64 a.k) ∧ w'.cell? ⟨w.heap.size, 3, none⟩ = some (.string a.s))
                (first | go_keep | exact ⟨A3.four.1, A3.four.2.2.2⟩)
                (first | (go_at_call 31; refine (made_any _ _ _).mono ?_; rintro e w3 ⟨rfl, hb3⟩; have A3 := hA2.keep (bl_drew hb3); have Z3 := hZ2.keep (bl_drew hb3); obtain ⟨z0, z1, z2, z3⟩ := Z3.four; have f0 := Z3.free 0; have f1 := Z3.free 1; have f2 := Z3.free 2; have f3 := Z3.free 3))
              go_wp2
              refine bodyPost_ret (v := .tuple #[vlV a.k 0 0 (a.s.extract i b), .int .i64 0]) (by simp [results, Tryd.results13, go_sem, z0, z1, z2, z3]) rfl ⟨by rw [HX.out], ?_⟩
              (repeat refine Below.setCell ?_ (by simp <;> omega) _)
              exact bl_then HB2.out (bl_drew hb3)
      · have d3 : decide ((i : Int) < a.s.size) = false := by simp only [decide_eq_false_iff_not]; omega
        have d4 : decide (i < a.s.size) = false := decide_eq_false hlt
        have i2 : (a.s.size : Int) ≤ i := by omega
        have H3 : Hid (∀ h : i < a.s.size, a.s[i] ≠ 32) := Lib.hid fun h => absurd h hlt
        go_wp2
        go_loopw [6] (fun v wr => ∃ b : Nat, i ≤ b ∧ b ≤ a.s.size ∧ v = .int .i64 b ∧ Hid (∀ j (h : j < a.s.size), b ≤ j → a.s[j] = 32) ∧ Row wr w.heap.size (vlC a.k a.n a.q a.s) 23 ∧ Row wr (w.heap.size + 1) (vlC 0 0 0 ⟨#[]⟩) 23 ∧ Below w.heap.size w wr) (fun v _ => (intOf v).toNat)
        case atStart => exact ⟨a.s.size, hi, Nat.le_refl _, rfl, fun j h hj => absurd h (Nat.not_lt.2 hj), hA, hZ, HB.out⟩
        case round =>
          obtain ⟨b, hib, hbs, rfl, HG, hA2, hZ2, hB2⟩ := hrel
          obtain ⟨x0, x1, x2, x3⟩ := hA2.four
          have HB2 := Lib.hid hB2
          clear hB2
          have j1 : (i : Int) ≤ b := by omega
          have j2 : (b : Int) ≤ a.s.size := by omega
          have j0 : (0 : Int) ≤ i := by omega
          have hb : ¬ i < b := by omega
          have d5 : decide ((i : Int) < b) = false := by simp only [decide_eq_false_iff_not]; omega
          have d6 : decide (i < b) = false := decide_eq_false hb
          have j6 : (b : Int) ≤ i := by omega
          have HX : Hid (a.s.extract i b = bsz (trimL a.s.data.toList)) := Lib.hid (ext_trim a.s i b hib hbs HF.out HG.out (fun h _ => H3.out h) (fun m' h hm' h' => absurd h' hb))
          clear hb
          go_wp2
          go_region_held3 (fun w' => w'.cell? ⟨w.heap.size, 0, none⟩ = some (.int .i64 a.k) ∧ w'.cell? ⟨w.heap.size, 3, none⟩ = some (.string a.s))
            (first | go_keep | exact ⟨A3.four.1, A3.four.2.2.2⟩)
            (first | (go_at_call 31; refine (made_any _ _ _).mono ?_; rintro e w3 ⟨rfl, hb3⟩; have A3 := hA2.keep (bl_drew hb3); have Z3 := hZ2.keep (bl_drew hb3); obtain ⟨z0, z1, z2, z3⟩ := Z3.four; have f0 := Z3.free 0; have f1 := Z3.free 1; have f2 := Z3.free 2; have f3 := Z3.free 3))
          go_wp2
          refine bodyPost_ret (v := .tuple #[vlV a.k 0 0 (a.s.extract i b), .int .i64 0]) (by simp [results, Tryd.results13, go_sem, z0, z1, z2, z3]) rfl ⟨by rw [HX.out], ?_⟩
          (repeat refine Below.setCell ?_ (by simp <;> omega) _)
          exact bl_then HB2.out (bl_drew hb3)
  · rw [orV, if_neg h0, if_neg h0]
    have e1 : (kindE1 4 a != 0) = true := by simpa using h0
    have e2 : (kindE1 4 a == 0) = false := by simpa using h0
    generalize hE : kindE1 4 a = E at e1 e2 ⊢
    have HE := Lib.hid hE
    clear h0 hE
    go_enter Tryd.func13, Tryd.ntmps13
    go_wp2_with (go_at_call 30; refine (rStr1k_any 4 (by decide) a (w.heap.size + 1 + 1) 1 _ H1.out (VlsAt.one (Row.new3 _ _ _ _ _)) (by simp)).mono ?_; rw [HE.out]; rintro e w1 ⟨rfl, hb1⟩; have B1 := Lib.hid (bl_box3 (Below.refl _ w) hb1); have Z1 := RZ.keep hb1; obtain ⟨z0, z1, z2, z3⟩ := Z1.four; have f0 := Z1.free 0; have f1 := Z1.free 1; have f2 := Z1.free 2; have f3 := Z1.free 3)
    refine bodyPost_ret (v := .tuple #[vlV 0 0 0 ⟨#[]⟩, .int .i64 E]) (by simp [results, Tryd.results13, go_sem, z0, z1, z2, z3]) rfl ⟨rfl, ?_⟩
    (repeat refine Below.setCell ?_ (by simp <;> omega) _)
    exact B1.out
end Go.Proofs.YtljbkpnfjgnhnaaDoor
