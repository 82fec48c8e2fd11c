/- Package bits: SetSub. -/
import Derived.Test.YtljbkpnfjgnhnaaDoorBitSet
namespace Go.Proofs.YtljbkpnfjgnhnaaDoor
open Go.RowKit

def setE (a v : Vl) (i m : Int) : Int := if alikeE a v = 0 then (if plainI i && plainI m then 0 else 7) else alikeE a v
theorem setE_ok {a v : Vl} {i m : Int} (h : setE a v i m = 0) : a.ok = true ∧ v.ok = true ∧ v.k = a.k ∧ plainI i = true ∧ plainI m = true := by
  unfold setE at h
  split at h
  · rename_i h1
    obtain ⟨oa, ob, ok⟩ := alikeE_ok h1
    split at h
    · rename_i h2
      simp only [Bool.and_eq_true] at h2
      exact ⟨oa, ob, ok, h2.1, h2.2⟩
    · cases h
  · rename_i h1; exact absurd h h1
def setV (a v : Vl) (i m : Int) : Value := tkV a.k 0 0 (bsz (setL a.k a.s.data.toList i m v.s.data.toList)) (partC a.s.data.toList i m)
theorem vl_le' {a : Vl} (h : a.ok = true) : a.s.size ≤ 1000 := by
  have := okT_len (okV_eq h).2.2; rw [lsz] at this; omega

set_option maxRecDepth 100000 in
set_option maxHeartbeats 2000000 in
theorem cSetSub_any (a v : Vl) (i m : Int) (bs bv bi bn : Nat) (w : World) (hS : Row w bs (vlC a.k a.n a.q a.s) 23) (hV : Row w bv (vlC v.k v.n v.q v.s) 23) (hI : Row w bi #[.int .i64 i] 3) (hN : Row w bn #[.int .i64 m] 3) (hs : a.s.size ≤ maxLen) (hs' : v.s.size ≤ maxLen) :
    Calls Tryd.prog 36 #[ptr bs, ptr bv, ptr bi, ptr bn] w fun e w' => e = outE (setE a v i m) (setV a v i m) ∧ Below w.heap.size w w' := by
  have RS := hS.alloc (.cells (tkC 0 0 0 ⟨#[]⟩ 0) 40)
  have RV := hV.alloc (.cells (tkC 0 0 0 ⟨#[]⟩ 0) 40)
  have RI := hI.alloc (.cells (tkC 0 0 0 ⟨#[]⟩ 0) 40)
  have RN := hN.alloc (.cells (tkC 0 0 0 ⟨#[]⟩ 0) 40)
  have RZ := Row.new w (tkC 0 0 0 ⟨#[]⟩ 0) 40
  have H1 := Lib.hid hs; have H2 := Lib.hid hs'
  have ls := hS.lt; have lv := hV.lt; have li := hI.lt; have ln := hN.lt
  obtain ⟨x0, x1, x2, x3⟩ := hS.four
  obtain ⟨y0, y1, y2, y3⟩ := hV.four
  have u0 := hI.one
  have t0 := hN.one
  clear hs hs'
  by_cases h0 : alikeE a v = 0
  · obtain ⟨oa, ob, ok⟩ := alikeE_ok h0
    have la := Lib.hid (vl_le' oa)
    have lb := Lib.hid (vl_le' ob)
    have HK := Lib.hid (okT_kind (okV_eq oa).2.2)
    have HO := Lib.hid ok
    have HE := Lib.hid h0
    cases hp : (plainI i && plainI m) with
    | false =>
      have e : setE a v i m = 7 := by rw [setE, if_pos h0, hp]; rfl
      have HP := Lib.hid hp
      rw [e]
      clear e hp h0 oa ob ok
      go_enter Tryd.func36, Tryd.ntmps36
      go_wp2_with (first
        | (go_at_call 37; refine (demAlike_any a v (w.heap.size + 1) 1 _ H1.out H2.out (VlsAt.one (Row.new2 _ _ _ _)) (by simp)).mono ?_; rw [HE.out, outE_ok]; rintro e w1 ⟨rfl, hb1⟩; have B1 := bl_box2 (Below.refl _ w) hb1; have I1 := (RI.alloc _).keep hb1; have N1 := (RN.alloc _).keep hb1; have y1 := I1.one; have u1 := N1.one; have li1 := I1.lt; have ln1 := N1.lt)
        | (go_at_call 38; refine (counts2_no i m w1.heap.size 2 _ (Row.new _ _ _).two.1 (Row.new _ _ _).two.2 HP.out).mono ?_; rintro e w2 ⟨rfl, rfl⟩))
      exact ⟨rfl, rfl, B1.alloc B1.size _⟩
    | true =>
      have hpp : plainI i = true ∧ plainI m = true := by simpa using hp
      have e : setE a v i m = 0 := by rw [setE, if_pos h0, hp]; rfl
      have HP := Lib.hid hpp
      rw [e]
      clear e hp h0 oa ob ok hpp
      show Calls _ _ _ _ fun e w' => e = .returned (tkV a.k 0 0 (bsz (setL a.k a.s.data.toList i m v.s.data.toList)) (partC a.s.data.toList i m)) ∧ Below w.heap.size w w'
      go_enter Tryd.func36, Tryd.ntmps36
      go_wp2_with (first
        | (go_at_call 37; refine (demAlike_any a v (w.heap.size + 1) 1 _ H1.out H2.out (VlsAt.one (Row.new2 _ _ _ _)) (by simp)).mono ?_; rw [HE.out, outE_ok]; rintro e w1 ⟨rfl, hb1⟩; have B1 := bl_box2 (Below.refl _ w) hb1; have S1 := (RS.alloc _).keep hb1; have V1 := (RV.alloc _).keep hb1; have I1 := (RI.alloc _).keep hb1; have N1 := (RN.alloc _).keep hb1; have Z1 := (RZ.alloc _).keep hb1; obtain ⟨s0, s1, s2, s3⟩ := S1.four; obtain ⟨v0, v1, v2, v3⟩ := V1.four; have y1 := I1.one; have u1 := N1.one; have ls1 := S1.lt; have lv1 := V1.lt; have li1 := I1.lt; have ln1 := N1.lt)
        | (go_at_call 38; refine (counts2_ok i m w1.heap.size 2 _ (Row.new _ _ _).two.1 (Row.new _ _ _).two.2 HP.out.1 HP.out.2).mono ?_; rintro e w2 ⟨rfl, rfl⟩)
        | (go_at_call 39; refine (set_any a v i m _ la.out lb.out HK.out HO.out (plain_in HP.out.1).1 (plain_in HP.out.1).2 (by have := (plain_in HP.out.2).1; omega) (by have := (plain_in HP.out.2).2; omega)).mono ?_; rintro e w3 ⟨rfl, hb3⟩; have B3 := bl_box B1 hb3; have Z3 := (Z1.alloc _).keep hb3; obtain ⟨z0, z1, z2, z3, z4⟩ := Z3.five; have f0 := Z3.free 0; have f1 := Z3.free 1; have f2 := Z3.free 2; have f3 := Z3.free 3; have f4 := Z3.free 4))
      refine bodyPost_ret (v := tkV a.k 0 0 (bsz (setL a.k a.s.data.toList i m v.s.data.toList)) (partC a.s.data.toList i m)) (by simp [results, Tryd.results36, go_sem, z0, z1, z2, z3, z4]) rfl ⟨rfl, ?_⟩
      (repeat refine Below.setCell ?_ (by simp) _)
      exact B3
  · have e : setE a v i m = alikeE a v := if_neg h0
    have HE := Lib.hid (outE_no (.tuple #[]) h0)
    rw [e, outE_no _ h0]
    clear e h0
    go_enter Tryd.func36, Tryd.ntmps36
    go_wp2_with (go_at_call 37; refine (demAlike_any a v (w.heap.size + 1) 1 _ H1.out H2.out (VlsAt.one (Row.new2 _ _ _ _)) (by simp)).mono ?_; rw [HE.out]; rintro e w1 ⟨rfl, hb1⟩; have B1 := bl_box2 (Below.refl _ w) hb1)
    exact ⟨rfl, rfl, B1⟩

theorem Row.new4 (w : World) (o o' o'' : Obj) (cs : Array Value) (t : TypeId) : Row ((((w.alloc o).alloc o').alloc o'').alloc (.cells cs t)) (w.heap.size + 1 + 1 + 1) cs t := by
  have := Row.new (((w.alloc o).alloc o').alloc o'') cs t
  rwa [World.size_alloc, World.size_alloc, World.size_alloc] at this
theorem Row.new5 (w : World) (o o' o'' o3 : Obj) (cs : Array Value) (t : TypeId) : Row (((((w.alloc o).alloc o').alloc o'').alloc o3).alloc (.cells cs t)) (w.heap.size + 1 + 1 + 1 + 1) cs t := by
  have := Row.new ((((w.alloc o).alloc o').alloc o'').alloc o3) cs t
  rwa [World.size_alloc, World.size_alloc, World.size_alloc, World.size_alloc] at this

set_option maxRecDepth 100000 in
set_option maxHeartbeats 2000000 in
theorem bSetSub_any (a : Vl) (i m : Int) (v : Vl) (w : World) (hs : a.s.size ≤ maxLen) (hs' : v.s.size ≤ maxLen) :
    Calls Tryd.prog 16 #[a.v, .int .i64 i, .int .i64 m, v.v] w fun e w' => e = .returned (.tuple #[orV (setE a v i m) a.k (setL a.k a.s.data.toList i m v.s.data.toList), .int .i64 (orI (setE a v i m) (partC a.s.data.toList i m)), .int .i64 (setE a v i m)]) ∧ Below w.heap.size w w' := by
  have hmf : ∀ (fn : Fn) (first cap : Array Value) (w : World), (Instr.makeFunc fn first cap).run Tryd.prog w = .ok (.func fn first cap) w := fun _ _ _ _ => rfl
  have HC : Hid (∀ W, Below (((((w.alloc (.cells (vlC a.k a.n a.q a.s) 23)).alloc (.cells #[.int .i64 i] 3)).alloc (.cells #[.int .i64 m] 3)).alloc (.cells (vlC v.k v.n v.q v.s) 23)).alloc (.cells (vlC 0 0 0 ⟨#[]⟩) 23)).heap.size (((((w.alloc (.cells (vlC a.k a.n a.q a.s) 23)).alloc (.cells #[.int .i64 i] 3)).alloc (.cells #[.int .i64 m] 3)).alloc (.cells (vlC v.k v.n v.q v.s) 23)).alloc (.cells (vlC 0 0 0 ⟨#[]⟩) 23)) W → Calls Tryd.prog 36 #[ptr w.heap.size, ptr (w.heap.size + 1 + 1 + 1), ptr (w.heap.size + 1), ptr (w.heap.size + 1 + 1)] W fun e w' => e = outE (setE a v i m) (setV a v i m) ∧ Below W.heap.size W w') := by
    show ∀ _, _
    intro W hW
    exact cSetSub_any a v i m _ _ _ _ W ((((((Row.new _ _ _).alloc _).alloc _).alloc _).alloc _).keep hW) (((Row.new4 _ _ _ _ _ _).alloc _).keep hW) (((((Row.new2 _ _ _ _).alloc _).alloc _).alloc _).keep hW) ((((Row.new3 _ _ _ _ _).alloc _).alloc _).keep hW) hs hs'
  have RZ := Row.new5 w (.cells (vlC a.k a.n a.q a.s) 23) (.cells #[.int .i64 i] 3) (.cells #[.int .i64 m] 3) (.cells (vlC v.k v.n v.q v.s) 23) (vlC 0 0 0 ⟨#[]⟩) 23
  generalize setE a v i m = E at HC ⊢
  have HR : Hid ((if E = 0 then setV a v i m else tkV 0 0 0 ⟨#[]⟩ 0) = tkV (if E = 0 then a.k else 0) 0 0 (if E = 0 then bsz (setL a.k a.s.data.toList i m v.s.data.toList) else ⟨#[]⟩) (orI E (partC a.s.data.toList i m))) := by
    show _ = _
    unfold orI; split <;> rfl
  have HV : Hid (setV a v i m = tkV a.k 0 0 (bsz (setL a.k a.s.data.toList i m v.s.data.toList)) (partC a.s.data.toList i m)) := Lib.hid rfl
  unfold orV
  generalize (if E = 0 then a.k else 0) = K at HR ⊢
  generalize (if E = 0 then bsz (setL a.k a.s.data.toList i m v.s.data.toList) else ⟨#[]⟩) = L at HR ⊢
  generalize orI E (partC a.s.data.toList i m) = C at HR ⊢
  go_enter Tryd.func16, Tryd.ntmps16
  go_wp2_with (go_at_call 18; refine (bAnsK_any 36 _ E a.k 0 0 _ _ _ (fun W => by kernel_rfl) (fun W hW => by rw [← HV.out]; exact HC.out W hW)).mono ?_; rw [← HV.out, HR.out]; rintro e w1 ⟨rfl, hb1⟩; have Z1 := RZ.keep hb1; obtain ⟨z0, z1, z2, z3⟩ := Z1.four; have f0 := Z1.free 0; have f1 := Z1.free 1; have f2 := Z1.free 2; have f3 := Z1.free 3; have lz := Z1.lt)
  have n1 : ¬ w.heap.size + 1 + 1 + 1 + 1 = w1.heap.size := by omega
  have n2 : ¬ w1.heap.size = w.heap.size + 1 + 1 + 1 + 1 := by omega
  go_region
  go_wp2
  refine bodyPost_ret (v := .tuple #[vlV K 0 0 L, .int .i64 C, .int .i64 E]) (by simp [results, Tryd.results16, go_sem, z0, z1, z2, z3, lz]) rfl ⟨rfl, ?_⟩
  have B1 : Below w.heap.size w w1 := below_then (by go_grown) hb1 (by simp <;> omega)
  have z5 := B1.size
  refine Below.drew ?_
  refine Below.alloc ?_ (by simp; omega) _
  (repeat refine Below.setCell ?_ (by simp <;> omega) _)
  exact B1
end Go.Proofs.YtljbkpnfjgnhnaaDoor
