/- Package bits: translated, Translate. -/
import Derived.Test.YtgoghblfficfpaaBitMake2
import Derived.Test.YtgoghblfficfpaaBitSetSub
namespace Go.Proofs.Ytgoghblfficfpaa
open Go.RowKit

set_option maxRecDepth 100000 in
set_option maxHeartbeats 2000000 in
theorem translated1 (a t f : Vl) (bs bf bb i fn : Nat) (cap : Array Value) (w : World)
    (hS : Row w bs (vlC a.k a.n a.q a.s) 23) (hF : Row w bf (vlC f.k f.n f.q f.s) 23) (hB : Row w bb #[fnC fn cap] 84)
    (hT : Tells w fn cap 1000000 (getF a.k t.s.data.toList)) (_la : a.s.size ≤ 100000) (lf : f.s.size ≤ 100000) (hi : i < a.s.size) :
    Calls Try.prog 134 #[.int .i64 i, ptr bs, ptr bf, ptr bb] w fun e w' => e = .returned (.int .u8 (trF a.k a.s.data.toList t.s.data.toList f.s.data.toList i).toNat) ∧ Below w.heap.size w w' := by
  obtain ⟨x0, x1, x2, x3⟩ := hS.four
  obtain ⟨y0, y1, y2, y3⟩ := hF.four
  have v0 := hB.one
  have hcf := hT.1
  have HT := Lib.hid hT
  have hg := getF_b a.k a.s i hi
  have i1 : (i : Int) < a.s.size := by omega
  cases hc : f.s.data.toList.contains a.s[i] with
  | true =>
    have hle := List.idxOf_le_length (a := a.s[i]) (l := f.s.data.toList)
    rw [lsz] at hle
    have HX := Lib.hid (idx_in hc)
    have HR : Hid (trF a.k a.s.data.toList t.s.data.toList f.s.data.toList i = getF a.k t.s.data.toList (f.s.data.toList.idxOf a.s[i])) := by
      show _ = _
      unfold trF; rw [hg, hc]; rfl
    generalize f.s.data.toList.idxOf a.s[i] = N at hle HX HR
    have hN : N < 1000000 := by omega
    clear hT hg hc hle
    go_enter Try.func134, Try.ntmps134
    go_wp2
    go_region_held3 (fun w' => w'.cell? ⟨bs, 3, none⟩ = some (.string a.s) ∧ (w'.cell? ⟨bf, 0, none⟩ = some (.int .i64 f.k) ∧ w'.cell? ⟨bf, 1, none⟩ = some (.int .i64 f.n) ∧ w'.cell? ⟨bf, 2, none⟩ = some (.int .i64 f.q) ∧ w'.cell? ⟨bf, 3, none⟩ = some (.string f.s)))
      (first | go_keep | exact ⟨S2.four.2.2.2, F2.four⟩)
      (first | (go_at_call 132; refine (placeOf_any _ _ _ _ _ _).mono ?_; rw [HX.out]; rintro e w2 ⟨rfl, hb2⟩; have S2 := hS.keep (bl_drew hb2); have F2 := hF.keep (bl_drew hb2); have v2 := (hB.keep (bl_drew hb2)).one))
    go_wp2_with (refine (HT.out.2 N _ hN (bl_drew hb2)).mono ?_; rintro e w3 ⟨rfl, hb3⟩)
    go_ret
    exact ⟨ret_u8 (by rw [HR.out]), bl_then (bl_drew hb2) hb3⟩
  | false =>
    have HX := Lib.hid (idx_out hc)
    have HR : Hid (trF a.k a.s.data.toList t.s.data.toList f.s.data.toList i = a.s[i]) := by
      show _ = _
      unfold trF; rw [hg, hc]; rfl
    clear hT hg hc
    go_enter Try.func134, Try.ntmps134
    go_wp2
    go_region_held3 (fun w' => w'.cell? ⟨bs, 3, none⟩ = some (.string a.s) ∧ (w'.cell? ⟨bf, 0, none⟩ = some (.int .i64 f.k) ∧ w'.cell? ⟨bf, 1, none⟩ = some (.int .i64 f.n) ∧ w'.cell? ⟨bf, 2, none⟩ = some (.int .i64 f.q) ∧ w'.cell? ⟨bf, 3, none⟩ = some (.string f.s)))
      (first | go_keep | exact ⟨S2.four.2.2.2, F2.four⟩)
      (first | (go_at_call 132; refine (placeOf_any _ _ _ _ _ _).mono ?_; rw [HX.out]; rintro e w2 ⟨rfl, hb2⟩; have S2 := hS.keep (bl_drew hb2); have F2 := hF.keep (bl_drew hb2)))
    have x3' := S2.four.2.2.2
    go_wp2
    go_ret
    exact ⟨ret_u8 (by rw [HR.out]), bl_drew hb2⟩

set_option maxHeartbeats 1000000 in
theorem translated_any (a t f : Vl) (w : World) (la : a.s.size ≤ 100000) (lt : t.s.size ≤ 100000) (lf : f.s.size ≤ 100000) (hk : a.k = 4 ∨ a.k = 5) (hkt : t.k = a.k) :
    Calls Try.prog 88 #[a.v, t.v, f.v] w (GivesT w a.s.size (trF a.k a.s.data.toList t.s.data.toList f.s.data.toList)) := by
  have HK : Hid (t.k = 4 ∨ t.k = 5) := Lib.hid (by rw [hkt]; exact hk)
  have HKT := Lib.hid hkt
  clear hk hkt
  have RS := ((Row.new w (vlC a.k a.n a.q a.s) 23).alloc (.cells (vlC t.k t.n t.q t.s) 23)).alloc (.cells (vlC f.k f.n f.q f.s) 23)
  have RF := Row.new3 w (.cells (vlC a.k a.n a.q a.s) 23) (.cells (vlC t.k t.n t.q t.s) 23) (vlC f.k f.n f.q f.s) 23
  go_enter Try.func88, Try.ntmps88
  go_wp2_with (go_at_call 124; refine (filled_any _ _ _ _ 1000000 _ HK.out lt).mono ?_; rintro e w2 ⟨fn, cap, rfl, HT, hb2⟩; have S2 := RS.keep hb2; have F2 := RF.keep hb2; have B2 := bl_box3 (Below.refl _ w) hb2)
  show bodyPost _ _ _ _ _ _
  go_ret
  refine ⟨_, _, rfl, ⟨fun _ _ => by kernel_rfl, fun i W hi hB => ?_⟩, B2.alloc B2.size _⟩
  show Calls Try.prog 134 #[.int .i64 i, ptr w.heap.size, ptr (w.heap.size + 1 + 1), ptr w2.heap.size] W _
  exact translated1 a t f _ _ _ i fn cap W ((S2.alloc _).keep hB) ((F2.alloc _).keep hB) ((Row.new _ _ _).keep hB) (by rw [← HKT.out]; exact HT.later (bl_then ((Below.refl _ w2).alloc (Nat.le_refl _) _) (hB.mono (by simp)))) la lf hi

set_option maxRecDepth 100000 in
set_option maxHeartbeats 4000000 in
theorem cTrans_any (a t f : Vl) (bs bt bf : Nat) (w : World) (hS : Row w bs (vlC a.k a.n a.q a.s) 23) (hT : Row w bt (vlC t.k t.n t.q t.s) 23) (hF : Row w bf (vlC f.k f.n f.q f.s) 23) (hs : a.s.size ≤ maxLen) (hs' : t.s.size ≤ maxLen) (hs'' : f.s.size ≤ maxLen) :
    Calls Try.prog 86 #[ptr bs, ptr bt, ptr bf] w fun e w' => e = outE (alikeE3 a t f) (vlV a.k 0 0 (bsz (trL a.k a.s.data.toList t.s.data.toList f.s.data.toList))) ∧ Below w.heap.size w w' := by
  obtain ⟨x0, x1, x2, x3⟩ := hS.four
  obtain ⟨y0, y1, y2, y3⟩ := hT.four
  obtain ⟨u0, u1, u2, u3⟩ := hF.four
  have ls := hS.lt
  have lt := hT.lt
  have lf := hF.lt
  have RZ := Row.new w (vlC 0 0 0 ⟨#[]⟩) 23
  have RS := hS.alloc (.cells (vlC 0 0 0 ⟨#[]⟩) 23)
  have RT := hT.alloc (.cells (vlC 0 0 0 ⟨#[]⟩) 23)
  have RF := hF.alloc (.cells (vlC 0 0 0 ⟨#[]⟩) 23)
  have H1 := Lib.hid hs
  have H2 := Lib.hid hs'
  have H3 := Lib.hid hs''
  clear hs hs' hs''
  have n1 : ¬ bs = w.heap.size := by omega
  have n2 : ¬ w.heap.size = bs := by omega
  have n3 : ¬ bt = w.heap.size := by omega
  have n4 : ¬ w.heap.size = bt := by omega
  have n5 : ¬ bf = w.heap.size := by omega
  have n6 : ¬ w.heap.size = bf := by omega
  by_cases h0 : alikeE3 a t f = 0
  · obtain ⟨oa, ob, oc, ok, ok'⟩ := alikeE3_ok h0
    have la := vl_le oa
    have lb := vl_le ob
    have lc := vl_le oc
    have hk := Lib.hid (okT_kind (okV_eq oa).2.2)
    have hkt := Lib.hid ok
    have HE := Lib.hid h0
    have HL : Hid (trL a.k a.s.data.toList t.s.data.toList f.s.data.toList = tellL a.s.size (trF a.k a.s.data.toList t.s.data.toList f.s.data.toList)) := by show _ = _; unfold trL; rw [lsz]
    rw [h0, HL.out]
    clear oa ob oc ok ok' h0
    show Calls _ _ _ _ fun e w' => e = .returned (vlV a.k 0 0 (bsz (tellL a.s.size (trF a.k a.s.data.toList t.s.data.toList f.s.data.toList)))) ∧ Below w.heap.size w w'
    go_enter Try.func86, Try.ntmps86
    go_wp2_with (go_at_call 66; refine (demAlike3_any a t f (w.heap.size + 1) 2 _ H1.out H2.out H3.out (VlsAt.two (Row.new2 _ _ _ _)) (by simp)).mono ?_; rw [HE.out, outE_ok]; rintro e w1 ⟨rfl, hb1⟩; have B1 := Lib.hid (bl_box2 (Below.refl _ w) hb1); have S1 := (RS.alloc _).keep hb1; have T1 := (RT.alloc _).keep hb1; have F1 := (RF.alloc _).keep hb1; have Z1 := (RZ.alloc _).keep hb1; obtain ⟨x0, x1, x2, x3⟩ := S1.four; obtain ⟨y0, y1, y2, y3⟩ := T1.four; obtain ⟨u0, u1, u2, u3⟩ := F1.four; have ls := S1.lt; have lt := T1.lt; have lf := F1.lt; clear hb1)
    go_region_held3 (fun w' => (w'.cell? ⟨bs, 0, none⟩ = some (.int .i64 a.k) ∧ w'.cell? ⟨bs, 1, none⟩ = some (.int .i64 a.n) ∧ w'.cell? ⟨bs, 2, none⟩ = some (.int .i64 a.q) ∧ w'.cell? ⟨bs, 3, none⟩ = some (.string a.s)) ∧ (w'.cell? ⟨bt, 0, none⟩ = some (.int .i64 t.k) ∧ w'.cell? ⟨bt, 1, none⟩ = some (.int .i64 t.n) ∧ w'.cell? ⟨bt, 2, none⟩ = some (.int .i64 t.q) ∧ w'.cell? ⟨bt, 3, none⟩ = some (.string t.s)) ∧ (w'.cell? ⟨bf, 0, none⟩ = some (.int .i64 f.k) ∧ w'.cell? ⟨bf, 1, none⟩ = some (.int .i64 f.n) ∧ w'.cell? ⟨bf, 2, none⟩ = some (.int .i64 f.q) ∧ w'.cell? ⟨bf, 3, none⟩ = some (.string f.s)))
      (first | go_keep | exact ⟨S3.four, T3.four, F3.four⟩ | exact ⟨S2.four, T2.four, F2.four⟩)
      (first
        | (go_at_call 88; refine (translated_any a t f _ la lb lc hk.out hkt.out).mono ?_; rintro e w3 ⟨fn, cap, rfl, HT, hb3⟩; have S2 := S1.keep (bl_drew hb3); have T2 := T1.keep (bl_drew hb3); have F2 := F1.keep (bl_drew hb3); have Z2 := Z1.keep (bl_drew hb3))
        | (go_at_call 87; refine (like_any _ _ _ _ a.s.size fn cap _ _ la HT).mono ?_; rintro e w4 ⟨rfl, hb4⟩; have S3 := S2.keep hb4; have T3 := T2.keep hb4; have F3 := F2.keep hb4; have Z3 := Z2.keep hb4; obtain ⟨z0, z1, z2, z3⟩ := Z3.four; have f0 := Z3.free 0; have f1 := Z3.free 1; have f2 := Z3.free 2; have f3 := Z3.free 3))
    go_wp2
    refine bodyPost_ret (v := vlV a.k 0 0 (bsz (tellL a.s.size (trF a.k a.s.data.toList t.s.data.toList f.s.data.toList)))) (by simp [results, Try.results86, go_sem, z0, z1, z2, z3]) rfl ⟨rfl, ?_⟩
    (repeat refine Below.setCell ?_ (by simp <;> omega) _)
    exact bl_then B1.out (bl_then (bl_drew hb3) hb4)
  · have HE := Lib.hid (outE_no (.tuple #[]) h0)
    rw [outE_no _ h0]
    clear h0
    go_enter Try.func86, Try.ntmps86
    go_wp2_with (go_at_call 66; refine (demAlike3_any a t f (w.heap.size + 1) 2 _ H1.out H2.out H3.out (VlsAt.two (Row.new2 _ _ _ _)) (by simp)).mono ?_; rw [HE.out]; rintro e w1 ⟨rfl, hb1⟩; have B1 := Lib.hid (bl_box2 (Below.refl _ w) hb1))
    exact ⟨rfl, rfl, B1.out⟩

set_option maxRecDepth 100000 in
set_option maxHeartbeats 2000000 in
theorem bTrans_any (a t f : Vl) (w : World) (hs : a.s.size ≤ maxLen) (hs' : t.s.size ≤ maxLen) (hs'' : f.s.size ≤ maxLen) :
    Calls Try.prog 25 #[a.v, t.v, f.v] w fun e w' => e = .returned (.tuple #[orV (alikeE3 a t f) a.k (trL a.k a.s.data.toList t.s.data.toList f.s.data.toList), .int .i64 (alikeE3 a t f)]) ∧ Below w.heap.size w w' := by
  have hmf : ∀ (fn : Fn) (first cap : Array Value) (w : World), (Instr.makeFunc fn first cap).run Try.prog w = .ok (.func fn first cap) w := fun _ _ _ _ => rfl
  have H1 := Lib.hid hs
  have H2 := Lib.hid hs'
  have H3 := Lib.hid hs''
  clear hs hs' hs''
  have HC : Hid (∀ W, Below ((((w.alloc (.cells (vlC a.k a.n a.q a.s) 23)).alloc (.cells (vlC t.k t.n t.q t.s) 23)).alloc (.cells (vlC f.k f.n f.q f.s) 23)).alloc (.cells (vlC 0 0 0 ⟨#[]⟩) 23)).heap.size ((((w.alloc (.cells (vlC a.k a.n a.q a.s) 23)).alloc (.cells (vlC t.k t.n t.q t.s) 23)).alloc (.cells (vlC f.k f.n f.q f.s) 23)).alloc (.cells (vlC 0 0 0 ⟨#[]⟩) 23)) W → Calls Try.prog 86 #[ptr w.heap.size, ptr (w.heap.size + 1), ptr (w.heap.size + 1 + 1)] W fun e w' => e = outE (alikeE3 a t f) (vlV a.k 0 0 (bsz (trL a.k a.s.data.toList t.s.data.toList f.s.data.toList))) ∧ Below W.heap.size W w') := by
    show ∀ _, _
    intro W hW
    exact cTrans_any a t f _ _ _ W (((((Row.new _ _ _).alloc _).alloc _).alloc _).keep hW) ((((Row.new2 _ _ _ _).alloc _).alloc _).keep hW) (((Row.new3 _ _ _ _ _).alloc _).keep hW) H1.out H2.out H3.out
  have RZ := Row.new4 w (.cells (vlC a.k a.n a.q a.s) 23) (.cells (vlC t.k t.n t.q t.s) 23) (.cells (vlC f.k f.n f.q f.s) 23) (vlC 0 0 0 ⟨#[]⟩) 23
  generalize alikeE3 a t f = E at HC ⊢
  generalize trL a.k a.s.data.toList t.s.data.toList f.s.data.toList = J at HC ⊢
  have HR : Hid ((if E = 0 then vlV a.k 0 0 (bsz J) else vlV 0 0 0 ⟨#[]⟩) = vlV (if E = 0 then a.k else 0) 0 0 (if E = 0 then bsz J else ⟨#[]⟩)) := by
    show _ = _
    split <;> rfl
  unfold orV
  generalize (if E = 0 then a.k else 0) = K at HR ⊢
  generalize (if E = 0 then bsz J else ⟨#[]⟩) = L at HR ⊢
  go_enter Try.func25, Try.ntmps25
  go_wp2_with (go_at_call 85; refine (bAnsV_any 86 _ E a.k 0 0 _ _ (fun W => by kernel_rfl) HC.out).mono ?_; rw [HR.out]; rintro e w1 ⟨rfl, hb1⟩; have Z1 := RZ.keep hb1; obtain ⟨z0, z1, z2, z3⟩ := Z1.four; have f0 := Z1.free 0; have f1 := Z1.free 1; have f2 := Z1.free 2; have f3 := Z1.free 3; have lz := Z1.lt)
  refine bodyPost_ret (v := .tuple #[vlV K 0 0 L, .int .i64 E]) (by simp [results, Try.results25, go_sem, z0, z1, z2, z3]) rfl ⟨rfl, ?_⟩
  (repeat refine Below.setCell ?_ (by simp <;> omega) _)
  exact below_then (by go_grown) hb1 (by simp <;> omega)
end Go.Proofs.Ytgoghblfficfpaa
