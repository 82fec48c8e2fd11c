/- Package bits: demandFitting. -/
import Derived.Test.YtljbkpnfjgnhnaaDoorBitDem
import Derived.Test.YtljbkpnfjgnhnaaDoorBitLow
import Derived.Deep.DeepCutAuto
namespace Go.Proofs.YtljbkpnfjgnhnaaDoor
open Go.RowKit

theorem bValidType_b (b : Bool) (k p q n : Int) (vy : Bool) (pic : ByteArray) (w : World) (h : okY k p q n pic.data.toList = b) :
    Calls Tryd.prog 10 #[tyV k p q n vy pic] w fun e w' => e = .returned (.bool b) ∧ Below w.heap.size w w' := by
  subst h; exact bValidType_any k p q n vy pic w

set_option maxHeartbeats 1000000 in
theorem fitting_1 (kv nv qv : Int) (sv : ByteArray) (k p q n : Int) (vy : Bool) (pic : ByteArray) (w : World) (ht : okY k p q n pic.data.toList = false) :
    Calls Tryd.prog 20 #[vlV kv nv qv sv, tyV k p q n vy pic] w fun e w' => e = bRef 1 ∧ Below w.heap.size w w' := by
  have HT := Lib.hid ht
  clear ht
  go_enter Tryd.func20, Tryd.ntmps20
  go_wp2_with (first
    | (go_at_call 10; refine (bValidType_b false _ _ _ _ _ _ _ HT.out).mono ?_; rintro e w1 ⟨rfl, hb1⟩)
    | (go_at_call 41; refine (bRefuse _ _).mono ?_; rintro e w4 ⟨rfl, rfl⟩))
  exact ⟨rfl, rfl, bl_box2 (Below.refl _ w) hb1⟩

set_option maxHeartbeats 1000000 in
theorem fitting_ok (kv nv qv : Int) (sv : ByteArray) (k p q n : Int) (vy : Bool) (pic : ByteArray) (w : World) (ht : okY k p q n pic.data.toList = true) (E : Ending) (hE : ∀ (b cap : Nat) (W : World), VlsAt W b 0 [⟨kv, nv, qv, sv⟩] → b < W.heap.size → Calls Tryd.prog 28 #[kdV k, .slice (some ⟨b, 0, none⟩) 1 cap] W fun e w' => e = E ∧ Below W.heap.size W w') (he : E = .returned (.tuple #[]) ∨ ∃ n, E = bRef n) :
    Calls Tryd.prog 20 #[vlV kv nv qv sv, tyV k p q n vy pic] w fun e w' => e = E ∧ Below w.heap.size w w' := by
  have HT := Lib.hid ht
  have HD := Lib.hid hE
  clear ht hE
  rcases he with rfl | ⟨m, rfl⟩
  · go_enter Tryd.func20, Tryd.ntmps20
    go_wp2_with (first
      | (go_at_call 10; refine (bValidType_b true _ _ _ _ _ _ _ HT.out).mono ?_; rintro e w1 ⟨rfl, hb1⟩; have B1 := bl_box2 (Below.refl _ w) hb1; have RV := ((Row.new w #[.int .i64 kv, .int .i64 nv, .int .i64 qv, .string sv] 23).alloc _).keep hb1; have RT := (Row.new2 w (.cells #[.int .i64 kv, .int .i64 nv, .int .i64 qv, .string sv] 23) #[.int .i64 k, .int .i64 p, .int .i64 q, .int .i64 n, .bool vy, .string pic] 25).keep hb1; obtain ⟨x0, x1, x2, x3⟩ := RV.four; obtain ⟨y0, y1, y2, y3, y4, y5⟩ := RT.six; have lv := RV.lt; have lt := RT.lt))
    generalize w.heap.size + 1 = bt at *
    have HB := Lib.hid B1
    clear hb1 B1 RT
    have RV' := Lib.hid RV
    go_region_with (first
      | (go_at_call 24; refine (kindOf_any _ _).mono ?_; rintro e w2 ⟨rfl, hb2⟩; have z := hb2.size; first | (have R2 := RV'.out.keep (bl_drew hb2); obtain ⟨u0, u1, u2, u3⟩ := R2.four; have B2 := bl_then HB.out (bl_drew hb2)) | (have hb2' := bl_dbox hb2; have R2 := (RV'.out.alloc _).keep hb2'; have S2 := (Row.new _ _ _).keep hb2'; obtain ⟨u0, u1, u2, u3⟩ := R2.four; have B2 := bl_box HB.out hb2'))
      | (go_at_call 28; first | (refine (HD.out _ _ _ (VlsAt.one (Row.new _ _ _)) (by simp)).mono ?_; rintro e w3 ⟨rfl, hb3⟩; have B3 := bl_box B2 hb3) | (refine (HD.out _ _ _ (VlsAt.one S2) S2.lt).mono ?_; rintro e w3 ⟨rfl, hb3⟩; have B3 := bl_then B2 hb3)))
    all_goals
      go_end0
      exact ⟨rfl, B3⟩
  · go_enter Tryd.func20, Tryd.ntmps20
    go_wp2_with (first
      | (go_at_call 10; refine (bValidType_b true _ _ _ _ _ _ _ HT.out).mono ?_; rintro e w1 ⟨rfl, hb1⟩; have B1 := bl_box2 (Below.refl _ w) hb1; have RV := ((Row.new w #[.int .i64 kv, .int .i64 nv, .int .i64 qv, .string sv] 23).alloc _).keep hb1; have RT := (Row.new2 w (.cells #[.int .i64 kv, .int .i64 nv, .int .i64 qv, .string sv] 23) #[.int .i64 k, .int .i64 p, .int .i64 q, .int .i64 n, .bool vy, .string pic] 25).keep hb1; obtain ⟨x0, x1, x2, x3⟩ := RV.four; obtain ⟨y0, y1, y2, y3, y4, y5⟩ := RT.six; have lv := RV.lt; have lt := RT.lt))
    generalize w.heap.size + 1 = bt at *
    have HB := Lib.hid B1
    clear hb1 B1 RT
    have RV' := Lib.hid RV
    go_region_with (first
      | (go_at_call 24; refine (kindOf_any _ _).mono ?_; rintro e w2 ⟨rfl, hb2⟩; have z := hb2.size; first | (have R2 := RV'.out.keep (bl_drew hb2); obtain ⟨u0, u1, u2, u3⟩ := R2.four; have B2 := bl_then HB.out (bl_drew hb2)) | (have hb2' := bl_dbox hb2; have R2 := (RV'.out.alloc _).keep hb2'; have S2 := (Row.new _ _ _).keep hb2'; obtain ⟨u0, u1, u2, u3⟩ := R2.four; have B2 := bl_box HB.out hb2'))
      | (go_at_call 28; first | (refine (HD.out _ _ _ (VlsAt.one (Row.new _ _ _)) (by simp)).mono ?_; rintro e w3 ⟨rfl, hb3⟩; have B3 := bl_box B2 hb3; suffices _hT : wpAny Tryd.prog Region.Mode.any #[] (fun _ _ _ => True) 0 #[] ⟨#[], []⟩ w3 from ⟨rfl, rfl, B3⟩) | (refine (HD.out _ _ _ (VlsAt.one S2) S2.lt).mono ?_; rintro e w3 ⟨rfl, hb3⟩; have B3 := bl_then B2 hb3; suffices _hT : wpAny Tryd.prog Region.Mode.any #[] (fun _ _ _ => True) 0 #[] ⟨#[], []⟩ w3 from ⟨rfl, rfl, B3⟩)))
    all_goals trivial

/-- A value and a type of strings. -/
theorem fitting_yes (kv nv qv : Int) (sv : ByteArray) (k p q n : Int) (vy : Bool) (pic : ByteArray) (w : World) (hs : sv.size ≤ maxLen) (ht : okY k p q n pic.data.toList = true) (hv : okV kv nv qv sv.data.toList = true) (hk : kv = k) :
    Calls Tryd.prog 20 #[vlV kv nv qv sv, tyV k p q n vy pic] w fun e w' => e = .returned (.tuple #[]) ∧ Below w.heap.size w w' := by
  subst hk
  refine fitting_ok kv nv qv sv kv p q n vy pic w ht _ (fun b cap W hA hb => ?_) (.inl rfl)
  exact demKind_yes kv (okT_kind (okV_eq hv).2.2) [⟨kv, nv, qv, sv⟩] b 0 cap W hA (by simp) hb (vl1 hs) (vl1 hv) (vl1 (by simp [Vl.is]))
theorem fitting_no1 (kv nv qv : Int) (sv : ByteArray) (k p q n : Int) (vy : Bool) (pic : ByteArray) (w : World) (hs : sv.size ≤ maxLen) (ht : okY k p q n pic.data.toList = true) (hv : okV kv nv qv sv.data.toList = false) :
    Calls Tryd.prog 20 #[vlV kv nv qv sv, tyV k p q n vy pic] w fun e w' => e = bRef 1 ∧ Below w.heap.size w w' := by
  refine fitting_ok kv nv qv sv k p q n vy pic w ht _ (fun b cap W hA hb => ?_) (.inr ⟨1, rfl⟩)
  exact demKind_1 k [⟨kv, nv, qv, sv⟩] b 0 cap W hA (by simp) hb (vl1 hs) (by simp [Vl.ok, hv])
theorem okY_kind2 {k p q n : Int} {l : List UInt8} (h : okY k p q n l = true) : k = 4 ∨ k = 5 := by
  apply Decidable.byContradiction
  intro hn
  rw [okY_kind hn] at h; cases h
theorem fitting_no10 (kv nv qv : Int) (sv : ByteArray) (k p q n : Int) (vy : Bool) (pic : ByteArray) (w : World) (hs : sv.size ≤ maxLen) (ht : okY k p q n pic.data.toList = true) (hv : okV kv nv qv sv.data.toList = true) (hk : kv ≠ k) :
    Calls Tryd.prog 20 #[vlV kv nv qv sv, tyV k p q n vy pic] w fun e w' => e = bRef 10 ∧ Below w.heap.size w w' := by
  refine fitting_ok kv nv qv sv k p q n vy pic w ht _ (fun b cap W hA hb => ?_) (.inr ⟨10, rfl⟩)
  exact demKind_10 k (okY_kind2 ht) [⟨kv, nv, qv, sv⟩] b 0 cap W hA (by simp) hb (vl1 hs) (vl1 hv) (by simpa [Vl.is] using hk)
end Go.Proofs.YtljbkpnfjgnhnaaDoor
