/- Package bits: Trim. -/
import Derived.Test.YtljbkpnfjgnhnaaDoorBitTrimL
import Derived.Test.YtljbkpnfjgnhnaaDoorBitFitP
namespace Go.Proofs.YtljbkpnfjgnhnaaDoor
open Go.RowKit

theorem demKind1c_any (a : Vl) (bl cap : Nat) (w : World) (hs : a.s.size ≤ maxLen) (hA : VlsAt w bl 0 [a]) (hb : bl < w.heap.size) :
    Calls Tryd.prog 28 #[.iface 58 (.agg #[]), .slice (some ⟨bl, 0, none⟩) 1 cap] w fun e w' => e = outE (kindE1 4 a) (.tuple #[]) ∧ Below w.heap.size w w' := by
  cases ho : a.ok with
  | false =>
    have e : kindE1 4 a = 1 := by rw [kindE1, ho]; rfl
    rw [e]; exact demKind_1 4 [a] bl 0 cap w hA (by simp) hb (vl1 hs) (by simp [ho])
  | true =>
    cases hk : a.is 4 with
    | false =>
      have e : kindE1 4 a = 10 := by rw [kindE1, ho, hk]; rfl
      rw [e]; exact demKind_10 4 (.inl rfl) [a] bl 0 cap w hA (by simp) hb (vl1 hs) (vl1 ho) (by simp [hk])
    | true =>
      have e : kindE1 4 a = 0 := by rw [kindE1, ho, hk]; rfl
      rw [e]; exact demKind_yes 4 (.inl rfl) [a] bl 0 cap w hA (by simp) hb (vl1 hs) (vl1 ho) (vl1 hk)

set_option maxRecDepth 100000 in
set_option maxHeartbeats 4000000 in
theorem cTrim_any (a : Vl) (bs : Nat) (w : World) (hS : Row w bs (vlC a.k a.n a.q a.s) 23) (hs : a.s.size ≤ maxLen) :
    Calls Tryd.prog 27 #[ptr bs] w fun e w' => e = outE (kindE1 4 a) (vlV 4 0 0 (bsz (trimL a.s.data.toList))) ∧ Below w.heap.size w w' := by
  obtain ⟨x0, x1, x2, x3⟩ := hS.four
  have ls := hS.lt
  have RZ := Row.new w (vlC 0 0 0 ⟨#[]⟩) 23
  have RS := hS.alloc (.cells (vlC 0 0 0 ⟨#[]⟩) 23)
  have H1 := Lib.hid hs
  clear hs
  have n1 : ¬ bs = w.heap.size := by omega
  have n2 : ¬ w.heap.size = bs := by omega
  by_cases h0 : kindE1 4 a = 0
  · obtain ⟨oa, ka⟩ := kindE1_ok h0
    have la : a.s.size ≤ 100000 := by have := okT_len (okV_eq oa).2.2; rw [lsz] at this; omega
    have HE := Lib.hid h0
    have KA := Lib.hid ka
    rw [h0]
    clear oa ka h0
    show Calls _ _ _ _ fun e w' => e = .returned (vlV 4 0 0 (bsz (trimL a.s.data.toList))) ∧ Below w.heap.size w w'
    rw [← KA.out]
    go_enter Tryd.func27, Tryd.ntmps27
    go_wp2_with (go_at_call 28; refine (demKind1c_any a (w.heap.size + 1) 1 _ H1.out (VlsAt.one (Row.new2 _ _ _ _)) (by simp)).mono ?_; rw [HE.out, outE_ok]; rintro e w1 ⟨rfl, hb1⟩; have B1 := Lib.hid (bl_box2 (Below.refl _ w) hb1); have S1 := (RS.alloc _).keep hb1; have Z1 := (RZ.alloc _).keep hb1; obtain ⟨x0, x1, x2, x3⟩ := S1.four; have ls := S1.lt; have lz := Z1.lt; clear hb1)
    go_region_held3 (fun w' => w'.cell? ⟨bs, 0, none⟩ = some (.int .i64 a.k) ∧ w'.cell? ⟨bs, 3, none⟩ = some (.string a.s))
      (first | go_keep | exact ⟨S2.four.1, S2.four.2.2.2⟩)
      (first | (go_at_call 29; refine (trim1 _ _ la).mono ?_; rintro e w3 ⟨rfl, hb3⟩; have S2 := S1.keep (bl_drew hb3); have Z3 := Z1.keep (bl_drew hb3); obtain ⟨z0, z1, z2, z3⟩ := Z3.four; have f0 := Z3.free 0; have f1 := Z3.free 1; have f2 := Z3.free 2; have f3 := Z3.free 3))
    go_wp2
    refine bodyPost_ret (v := vlV a.k 0 0 (bsz (trimL a.s.data.toList))) (by simp [results, Tryd.results27, go_sem, z0, z1, z2, z3]) rfl ⟨rfl, ?_⟩
    (repeat refine Below.setCell ?_ (by simp <;> omega) _)
    exact bl_then B1.out (bl_drew hb3)
  · have HE := Lib.hid (outE_no (.tuple #[]) h0)
    rw [outE_no _ h0]
    clear h0
    go_enter Tryd.func27, Tryd.ntmps27
    go_wp2_with (go_at_call 28; refine (demKind1c_any a (w.heap.size + 1) 1 _ H1.out (VlsAt.one (Row.new2 _ _ _ _)) (by simp)).mono ?_; rw [HE.out]; rintro e w1 ⟨rfl, hb1⟩; have B1 := Lib.hid (bl_box2 (Below.refl _ w) hb1))
    exact ⟨rfl, rfl, B1.out⟩

set_option maxRecDepth 100000 in
set_option maxHeartbeats 2000000 in
theorem bTrim_any (a : Vl) (w : World) (hs : a.s.size ≤ maxLen) :
    Calls Tryd.prog 12 #[a.v] w fun e w' => e = .returned (.tuple #[orV (kindE1 4 a) 4 (trimL a.s.data.toList), .int .i64 (kindE1 4 a)]) ∧ Below w.heap.size w w' := by
  have hmf : ∀ (fn : Fn) (first cap : Array Value) (w : World), (Instr.makeFunc fn first cap).run Tryd.prog w = .ok (.func fn first cap) w := fun _ _ _ _ => rfl
  have H1 := Lib.hid hs
  clear hs
  have HC : Hid (∀ W, Below ((w.alloc (.cells (vlC a.k a.n a.q a.s) 23)).alloc (.cells (vlC 0 0 0 ⟨#[]⟩) 23)).heap.size ((w.alloc (.cells (vlC a.k a.n a.q a.s) 23)).alloc (.cells (vlC 0 0 0 ⟨#[]⟩) 23)) W → Calls Tryd.prog 27 #[ptr w.heap.size] W fun e w' => e = outE (kindE1 4 a) (vlV 4 0 0 (bsz (trimL a.s.data.toList))) ∧ Below W.heap.size W w') := by
    show ∀ _, _
    intro W hW
    exact cTrim_any a _ W (((Row.new _ _ _).alloc _).keep hW) H1.out
  have RZ := Row.new2 w (.cells (vlC a.k a.n a.q a.s) 23) (vlC 0 0 0 ⟨#[]⟩) 23
  generalize kindE1 4 a = E at HC ⊢
  generalize trimL a.s.data.toList = J at HC ⊢
  have HR : Hid ((if E = 0 then vlV 4 0 0 (bsz J) else vlV 0 0 0 ⟨#[]⟩) = vlV (if E = 0 then 4 else 0) 0 0 (if E = 0 then bsz J else ⟨#[]⟩)) := by
    show _ = _
    split <;> rfl
  unfold orV
  generalize (if E = 0 then (4 : Int) else 0) = K at HR ⊢
  generalize (if E = 0 then bsz J else ⟨#[]⟩) = L at HR ⊢
  go_enter Tryd.func12, Tryd.ntmps12
  go_wp2_with (go_at_call 26; refine (bAnsV_any 27 _ E 4 0 0 _ _ (fun W => by kernel_rfl) HC.out).mono ?_; rw [HR.out]; rintro e w1 ⟨rfl, hb1⟩; have Z1 := RZ.keep hb1; obtain ⟨z0, z1, z2, z3⟩ := Z1.four; have f0 := Z1.free 0; have f1 := Z1.free 1; have f2 := Z1.free 2; have f3 := Z1.free 3; have lz := Z1.lt)
  refine bodyPost_ret (v := .tuple #[vlV K 0 0 L, .int .i64 E]) (by simp [results, Tryd.results12, go_sem, z0, z1, z2, z3]) rfl ⟨rfl, ?_⟩
  (repeat refine Below.setCell ?_ (by simp <;> omega) _)
  exact below_then (by go_grown) hb1 (by simp <;> omega)
end Go.Proofs.YtljbkpnfjgnhnaaDoor
