/- digit.fitting and its closure, of any type of numbers, by 0 as well. digit.reckoned of any two numbers into any type of numbers. digit.Add, Subtract, Multiply, Divide, Modulo out of reckoned. digit.fitting of a type that is no type of numbers: refused. -/
import Derived.Test.YtpdoddhieblooaaGreatDoorKFtFit
import Derived.Test.YtpdoddhieblooaaGreatDoorKDivAny
import Derived.Test.YtpdoddhieblooaaGreatDoorKFltModu
import Derived.Test.YtpdoddhieblooaaGreatDoorKFtErrT
import Derived.Test.YtpdoddhieblooaaGreatDoorKFtGives
import Derived.Test.YtpdoddhieblooaaGreatDoorKGoodZeroR
namespace Go.Proofs.YtpdoddhieblooaaGreatDoor
open Go.RowKit

set_option maxRecDepth 100000 in
set_option maxHeartbeats 1000000 in
theorem fitFloat_c (k p q n L : Int) (vy : Bool) (pic : ByteArray) (w : World) :
   Calls Tryz.prog 91 #[.agg #[.int .i64 k, .int .i64 p, .int .i64 q, .int .i64 n, .bool vy, .string pic], .int .i64 0, .int .i64 L] w fun e w' => ∃ bT, e = .returned (.func (.func 130) #[] #[ptD bT]) ∧ Row w' bT #[.int .i64 k, .int .i64 p, .int .i64 q, .int .i64 n, .bool vy, .string pic] 25 ∧ Below w.heap.size w w' := by
 have hmf : ∀ (fn : Fn) (first cap : Array Value) (w : World), (Instr.makeFunc fn first cap).run Tryz.prog w = .ok (.func fn first cap) w := fun _ _ _ _ => rfl
 have RT := Row.new w #[.int .i64 k, .int .i64 p, .int .i64 q, .int .i64 n, .bool vy, .string pic] 25
 go_enter Tryz.func91, Tryz.ntmps91
 go_wp2
 go_ret
 exact ⟨_, rfl, RT, (Below.refl _ w).alloc (Nat.le_refl _) _⟩
set_option maxRecDepth 100000 in
set_option maxHeartbeats 1000000 in
theorem fitting_3 (p q n L : Int) (vy : Bool) (pic : ByteArray) (w : World) :
   Calls Tryz.prog 57 #[.agg #[.int .i64 3, .int .i64 p, .int .i64 q, .int .i64 n, .bool vy, .string pic], .int .i64 0, .int .i64 L] w fun e w' => ∃ bt bf bT, e = .returned (.func (.func 109) #[] #[ptD bt, ptD bf]) ∧ Row w' bt #[.int .i64 3, .int .i64 p, .int .i64 q, .int .i64 n, .bool vy, .string pic] 25 ∧ Row w' bf #[.func (.func 130) #[] #[ptD bT]] 83 ∧ Row w' bT #[.int .i64 3, .int .i64 p, .int .i64 q, .int .i64 n, .bool vy, .string pic] 25 ∧ Below w.heap.size w w' := by
 have hmf : ∀ (fn : Fn) (first cap : Array Value) (w : World), (Instr.makeFunc fn first cap).run Tryz.prog w = .ok (.func fn first cap) w := fun _ _ _ _ => rfl
 have q5 := fld_5
 have qe : ∀ (f : Nat) (w : World), (binOp .eql 69 (fnv f) .nilFunc).run Tryz.prog w = .ok (.bool false) w := fun _ _ => by kernel_rfl
 have RT := Row.new w #[.int .i64 3, .int .i64 p, .int .i64 q, .int .i64 n, .bool vy, .string pic] 25
 have HF : Hid (∀ W, Calls Tryz.prog 91 #[.agg #[.int .i64 3, .int .i64 p, .int .i64 q, .int .i64 n, .bool vy, .string pic], .int .i64 0, .int .i64 L] W fun e w' => ∃ bT, e = .returned (.func (.func 130) #[] #[ptD bT]) ∧ Row w' bT #[.int .i64 3, .int .i64 p, .int .i64 q, .int .i64 n, .bool vy, .string pic] 25 ∧ Below W.heap.size W w') := Lib.hid fun W => fitFloat_c 3 p q n L vy pic W
 have t0 := RT.at 0
 have t0 : (w.alloc (.cells #[.int .i64 3, .int .i64 p, .int .i64 q, .int .i64 n, .bool vy, .string pic] 25)).cell? ⟨w.heap.size, 0, none⟩ = some (.int .i64 3) := t0
 go_enter Tryz.func57, Tryz.ntmps57
 go_wp2_with (first
   | (go_at_call 44; refine (rules_3 _).mono ?_; rintro e w2 ⟨rfl, hb2⟩; have T2 := RT.keep hb2; have B2 := Lib.hid (bl_box (Below.refl _ w) hb2); obtain ⟨y0, y1, y2, y3, y4, y5⟩ := row_six T2)
   | (go_at_call 91; (with_reducible refine (HF.out _).mono ?_); rintro e w3 ⟨bT, rfl, HT, hb3⟩; have T3 := Lib.hid (T2.keep hb3); have B3 := Lib.hid (bl_then B2.out hb3); have HT3 := Lib.hid HT; clear HT))
 go_ret
 exact ⟨_, _, bT, rfl, T3.out.alloc _, Row.new _ _ _, HT3.out.alloc _, B3.out.alloc B3.out.size _⟩
def AnyCap (k : Int) (P q : Nat) (L : Int) (w : World) (cap : Array Value) : Prop :=
 ∃ bt bf, cap = #[ptD bt, ptD bf] ∧ Row w bt #[.int .i64 k, .int .i64 (P : Int), .int .i64 (q : Int), .int .i64 0, .bool false, .string emp] 25 ∧
   ((∃ β c, KindP k β P ∧ Row w bf #[.func (.func 151) #[] c] 83 ∧ FixCap w c k 0 P q false emp (β ^ q) (β ^ P) L) ∨
    (∃ bT, k = 3 ∧ Row w bf #[.func (.func 130) #[] #[ptD bT]] 83 ∧ Row w bT #[.int .i64 k, .int .i64 (P : Int), .int .i64 (q : Int), .int .i64 0, .bool false, .string emp] 25))
theorem AnyCap.later {k : Int} {P q : Nat} {L : Int} {w w' : World} {cap : Array Value} (h : AnyCap k P q L w cap) (hb : Below w.heap.size w w') : AnyCap k P q L w' cap := by
 obtain ⟨bt, bf, e, h1, h2⟩ := h
 refine ⟨bt, bf, e, h1.keep hb, ?_⟩
 rcases h2 with ⟨β, c, h3, h4, h5⟩ | ⟨bT, h3, h4, h5⟩
 · exact .inl ⟨β, c, h3, h4.keep hb, h5.later hb⟩
 · exact .inr ⟨bT, h3, h4.keep hb, h5.keep hb⟩
theorem fitting_any {k : Int} {P q : Nat} (hT : NumT k P q) (L : Int) (W : World) :
   Calls Tryz.prog 57 #[.agg #[.int .i64 k, .int .i64 (P : Int), .int .i64 (q : Int), .int .i64 0, .bool false, .string emp], .int .i64 0, .int .i64 L] W fun e w' => ∃ cap, e = .returned (.func (.func 109) #[] cap) ∧ AnyCap k P q L w' cap ∧ Below W.heap.size W w' := by
 rcases hT with ⟨rfl, h1, h2, h3⟩ | ⟨rfl, h1, h2, h3⟩ | ⟨rfl, h1, h2, h3⟩
 · exact (fitting_1 0 L P q false emp W (by omega) (by omega)).mono fun _ _ ⟨bt, bf, c, he, ht, hf, hc, hb⟩ => ⟨_, he, ⟨bt, bf, rfl, ht, .inl ⟨2, c, .inl ⟨rfl, rfl, h1, h2⟩, hf, hc⟩⟩, hb⟩
 · exact (fitting_2 0 L P q false emp W (by omega) (by omega)).mono fun _ _ ⟨bt, bf, c, he, ht, hf, hc, hb⟩ => ⟨_, he, ⟨bt, bf, rfl, ht, .inl ⟨10, c, .inr ⟨rfl, rfl, h1, h2⟩, hf, hc⟩⟩, hb⟩
 · exact (fitting_3 _ _ 0 L false emp W).mono fun _ _ ⟨bt, bf, bT, he, ht, hf, hT, hb⟩ => ⟨_, he, ⟨bt, bf, rfl, ht, .inr ⟨bT, rfl, hf, hT⟩⟩, hb⟩
theorem fltF_hcf : ∀ (args : Array Value) (W : World), (callFunc 130 args).run Tryz.prog W = .ok (.enter 130 args) W := fun _ _ => by kernel_rfl
theorem fitR_ex {k : Int} {P q : Nat} (hT : NumT k P q) (L z : Int) {u : Nat} (hu : 0 < u) : ∃ N Q c, FitR k P q L z u N Q c := by
 rcases hT with ⟨rfl, h1, h2, h3⟩ | ⟨rfl, h1, h2, h3⟩ | ⟨rfl, h1, h2, h3⟩
 · exact ⟨_, _, _, .inl ⟨rfl, rfl, rfl, rfl⟩⟩
 · exact ⟨_, _, _, .inr (.inl ⟨rfl, rfl, rfl, rfl⟩)⟩
 · obtain ⟨N, Q, c, h⟩ := flt_ex P z hu h1
   exact ⟨N, Q, c, .inr (.inr ⟨rfl, h⟩)⟩
theorem fit1_any {k : Int} {P q : Nat} {L z : Int} {u : Nat} {N Q c : Int} (hT : NumT k P q) (hu : 0 < u) (la : (wrds z.natAbs).length ≤ 3000) (lu : (wrds u).length ≤ 3000) (da : (digs z.natAbs).length ≤ 9000) (du : (digs u).length ≤ 9000) (hR : FitR k P q L z u N Q c) {W : World} {cap : Array Value} {vx : Value} (hF : AnyCap k P q L W cap) (hX : XArg 0 W vx z u) :
   Calls Tryz.prog 109 (#[vx] ++ cap) W fun e w' => e = .returned (.tuple #[vaV k N Q emp, .int .i64 c]) ∧ Below W.heap.size W w' := by
 obtain ⟨bt, bf, rfl, ht, hf⟩ := hF
 rcases hf with ⟨β, cp, hK, hf, hC⟩ | ⟨bT, rfl, hf, hT2⟩
 · have hq : q ≤ 31 := by
     rcases hT with ⟨e, _, _, h3⟩ | ⟨e, _, _, h3⟩ | ⟨e, _⟩
     · exact h3
     · exact h3
     · rcases hK with ⟨e', _⟩ | ⟨e', _⟩ <;> omega
   obtain ⟨s0, s1⟩ := hK.scale hq
   obtain ⟨b0, b1⟩ := hK.bound
   have hFx : FixR β P q L z u N Q c := by
     rcases hR with ⟨e, h⟩ | ⟨e, h⟩ | ⟨e, h⟩ <;> rcases hK with ⟨e', rfl, _⟩ | ⟨e', rfl, _⟩ <;> first | exact h | (exfalso; omega)
   obtain ⟨rfl, rfl, rfl⟩ := hFx
   have lB : (wrds (β ^ P)).length ≤ 2 := wrds_length _ 2 (by omega)
   have lM := wrds_mul_len z.natAbs (β ^ q)
   have lQ : (wrds (z.natAbs * β ^ q / u)).length ≤ 10000 := by
     have := wrds_le_len (Nat.div_le_self (z.natAbs * β ^ q) u)
     omega
   refine fitting1_x fit_hcf hf hX (by omega) (by omega) fun W' hW' => ?_
   by_cases hlt : β ^ P ≤ z.natAbs * β ^ q / u
   · rw [if_pos hlt]
     exact fit1_big (hC.later hW') (hX.keep hW' (Nat.le_refl _)) (by omega) (by omega) rfl rfl (div_any hu (by omega) (by omega)) (by omega) lQ hlt (div_any b0 (by omega) (by omega)) b0 rfl
   · rw [if_neg hlt, Nat.mod_eq_of_lt (by omega)]
     exact fit1_fit (hC.later hW') (hX.keep hW' (Nat.le_refl _)) (by omega) (by omega) rfl rfl (div_any hu (by omega) (by omega)) (by omega) lQ rfl (by omega)
 · have h13 : 1 ≤ P ∧ P ≤ 15 := by
     rcases hT with ⟨e, _⟩ | ⟨e, _⟩ | ⟨_, h1, h2, _⟩
     · omega
     · omega
     · exact ⟨h1, h2⟩
   have hFl : FltR P z u N Q c := by
     rcases hR with ⟨e, _⟩ | ⟨e, _⟩ | ⟨_, h⟩
     · omega
     · omega
     · exact h
   refine fitting1_x fltF_hcf hf hX (by omega) (by omega) fun W' hW' => ?_
   by_cases hz : z = 0
   · subst hz
     rcases hFl with ⟨_, rfl, rfl, rfl⟩ | ⟨h, _⟩
     · exact fitF_0 (hX.keep hW' (Nat.le_refl _)) rfl (hT2.keep hW')
     · exact absurd rfl h
   · refine (fitF_n (hX.keep hW' (Nat.le_refl _)) (hT2.keep hW') hz hu h13.1 h13.2 la lu da du).mono ?_
     rintro e w' ⟨N', Q', c', ⟨he, hb⟩, hR'⟩
     obtain ⟨rfl, rfl, rfl⟩ := hR'.same hFl h13.1 hu hu rfl
     exact ⟨he, hb⟩
theorem valid_num {k : Int} {P q : Nat} (hT : NumT k P q) (w : World) : Calls Tryz.prog 56 #[tyV k (P : Int) (q : Int) 0 false emp] w fun e w' => e = .returned (.tuple #[]) ∧ Below w.heap.size w w' := by
 rcases hT with ⟨rfl, h1, h2, h3⟩ | ⟨rfl, h1, h2, h3⟩ | ⟨rfl, h1, h2, h3⟩
 · exact demValid_yes 1 _ _ 0 false emp w (by decide) (by simp [validS, validFixedS, Lib.toList_data]; omega)
 · exact demValid_yes 2 _ _ 0 false emp w (by decide) (by simp [validS, validFixedS, Lib.toList_data]; omega)
 · subst h3
   exact demValid_yes 3 _ _ 0 false emp w (by decide) (by simp [validS, validFloatS, Lib.toList_data]; omega)
theorem rec_num {opf : Nat} {k : Int} {P q : Nat} (hT : NumT k P q) (L : Int) (a b : Va) (ra : a.right) (rb : b.right) (ka : a.number) (kb : b.number) (hRa : ∀ W, Calls Tryz.prog 46 #[a.v] W (YesD W)) (hRb : ∀ W, Calls Tryz.prog 46 #[b.v] W (YesD W)) {Z : Int} {U : Nat} (hU : 0 < U)
   (lZ : (wrds Z.natAbs).length ≤ 3000) (lU : (wrds U).length ≤ 3000) (dZ : (digs Z.natAbs).length ≤ 9000) (dU : (digs U).length ≤ 9000)
   (hcf : ∀ (args : Array Value) (W : World), (callFunc opf args).run Tryz.prog W = .ok (.enter opf args) W)
   (hOP : ∀ W vx vy, XArg 0 W vx a.num a.den → XArg 0 W vy b.num b.den → Calls Tryz.prog opf #[vx, vy] W fun e w' => ∃ y, e = .returned y ∧ XArg 0 w' y Z U ∧ Below W.heap.size W w') :
   ∃ N Q c : Int, FitR k P q L Z U N Q c ∧ ∀ w, Calls Tryz.prog 28 #[a.v, b.v, .agg #[.int .i64 k, .int .i64 (P : Int), .int .i64 (q : Int), .int .i64 0, .bool false, .string emp], fnv opf, .int .i64 L] w fun e w' => e = .returned (.tuple #[vaV k N Q emp, .int .i64 c, .int .i64 0]) ∧ Below w.heap.size w w' := by
 obtain ⟨N, Q, c, hR⟩ := fitR_ex hT L Z hU
 refine ⟨N, Q, c, hR, fun w => ?_⟩
 refine rec_x (F := AnyCap k P q L) (za := a.num) (ua := a.den) (zb := b.num) (ub := b.den) (Z := Z) (U := U) hcf ?_ (valid_num hT) (fun W => (exactly_num (P := fun c => W.heap.size ≤ c) a W (fun _ h => h) ra ka).mono fun _ _ ⟨y, he, hx, hb⟩ => ⟨y, he, hx, hb⟩) (fun W => (exactly_num (P := fun c => W.heap.size ≤ c) b W (fun _ h => h) rb kb).mono fun _ _ ⟨y, he, hx, hb⟩ => ⟨y, he, hx, hb⟩) (fun h hb => h.later hb) (fun W => fitting_any hT L W) hOP (fun W cap vx hF hX => fit1_any hT hU lZ lU dZ dU hR hF hX)
 intro t ht W
 rcases List.mem_cons.1 ht with rfl | ht
 · exact hRa W
 · rw [List.mem_singleton.1 ht]
   exact hRb W
def zQ (k : Int) (q : Nat) : Int := if k = 3 then 0 else q
theorem zeroOf_num {k : Int} {P q : Nat} (hT : NumT k P q) (w : World) : Calls Tryz.prog 110 #[tyV k (P : Int) (q : Int) 0 false emp] w fun e w' => e = .returned (vaV k 0 (zQ k q) ⟨#[]⟩) ∧ Below w.heap.size w w' := by
 rcases hT with ⟨rfl, h1, h2, h3⟩ | ⟨rfl, h1, h2, h3⟩ | ⟨rfl, h1, h2, h3⟩
 · exact zeroOf_1 _ _ _ _ _ w
 · exact zeroOf_2 _ _ _ _ _ w
 · exact zeroOf_3 _ _ _ _ _ w
set_option maxRecDepth 100000 in
set_option maxHeartbeats 4000000 in
theorem fitting1_0 {k : Int} {P q : Nat} {L z : Int} (hT : NumT k P q) {w : World} {cap : Array Value} {vx : Value} (hF : AnyCap k P q L w cap) (hX : XArg 0 w vx z 0) :
   Calls Tryz.prog 109 (#[vx] ++ cap) w fun e w' => e = .returned (.tuple #[vaV k 0 (zQ k q) emp, .int .i64 9]) ∧ Below w.heap.size w w' := by
 obtain ⟨bt, bf, rfl, RT, _⟩ := hF
 obtain ⟨px, kx, qx, mx, rfl⟩ := hX.open
 have HX := Lib.hid hX.args.2.1
 have HIZ : Hid (∀ W, Below w.heap.size w W → Calls Tryz.prog 49 #[.slice qx (wrds 0).length mx] W fun e w' => e = .returned (.bool true) ∧ W = w') := Lib.hid fun W hW => isZero_d (HX.out.keep hW (Nat.le_refl _)) (by rw [wrds_zero]; decide)
 have HZO : Hid (∀ W, Calls Tryz.prog 110 #[tyV k (P : Int) (q : Int) 0 false emp] W fun e w' => e = .returned (vaV k 0 (zQ k q) ⟨#[]⟩) ∧ Below W.heap.size W w') := Lib.hid fun W => zeroOf_num hT W
 obtain ⟨Z, hZ⟩ : ∃ Z, zQ k q = Z := ⟨_, rfl⟩
 rw [hZ] at HZO ⊢
 obtain ⟨L0, hL0⟩ : ∃ L0, (wrds 0).length = L0 := ⟨_, rfl⟩
 rw [hL0] at HIZ ⊢
 have lT := RT.lt
 clear hX HX hT hZ hL0
 obtain ⟨dz, hdz⟩ : ∃ d, decide (z < 0) = d := ⟨_, rfl⟩
 rw [hdz]
 clear hdz
 have RX := (Row.new w (exC (.slice px (wrds z.natAbs).length kx) dz (.slice qx L0 mx)) 43).alloc (.cells (vaC 0 0 0 ⟨#[]⟩) 23)
 have RZ := Row.new2 w (.cells (exC (.slice px (wrds z.natAbs).length kx) dz (.slice qx L0 mx)) 43) (vaC 0 0 0 ⟨#[]⟩) 23
 have R7 := (RT.alloc (.cells (exC (.slice px (wrds z.natAbs).length kx) dz (.slice qx L0 mx)) 43)).alloc (.cells (vaC 0 0 0 ⟨#[]⟩) 23)
 go_enter Tryz.func109, Tryz.ntmps109
 go_wp2_with fail
 generalize hw : (w.alloc (.cells (exC (.slice px (wrds z.natAbs).length kx) dz (.slice qx L0 mx)) 43)).alloc (.cells (vaC 0 0 0 ⟨#[]⟩) 23) = W at *
 have B0 : Hid (Below w.heap.size w W) := by show Below _ _ _; rw [← hw]; go_grown
 clear hw
 obtain ⟨x0, x1, x2⟩ := RX.ex
 obtain ⟨t0, t1, t2, t3, t4, t5⟩ := R7.six
 go_wp2_with (first
   | (go_at_call 49; (with_reducible refine (HIZ.out _ B0.out).mono ?_); rintro e w1 ⟨rfl, rfl⟩)
   | (go_at_call 110; (refine (HZO.out _).mono ?_); rintro e w2 ⟨rfl, hb2⟩; have Z2 := RZ.keep hb2; have B2 := Lib.hid (bl_then B0.out hb2); obtain ⟨z0, z1, z2, z3⟩ := Z2.four; have f0 := Z2.free 0; have f1 := Z2.free 1; have f2 := Z2.free 2; have f3 := Z2.free 3))
 refine bodyPost_ret (v := .tuple #[vaV k 0 Z emp, .int .i64 9]) (by simp [results, Tryz.results109, go_sem, z0, z1, z2, z3]) rfl ⟨rfl, ?_⟩
 (repeat refine Below.setCell ?_ (by simp <;> omega) _)
 exact B2.out
theorem rec_zero {opf : Nat} {k : Int} {P q : Nat} (hT : NumT k P q) (L : Int) (a b : Va) (ra : a.right) (rb : b.right) (ka : a.number) (kb : b.number) (hRa : ∀ W, Calls Tryz.prog 46 #[a.v] W (YesD W)) (hRb : ∀ W, Calls Tryz.prog 46 #[b.v] W (YesD W)) {Z : Int}
   (hcf : ∀ (args : Array Value) (W : World), (callFunc opf args).run Tryz.prog W = .ok (.enter opf args) W)
   (hOP : ∀ W vx vy, XArg 0 W vx a.num a.den → XArg 0 W vy b.num b.den → Calls Tryz.prog opf #[vx, vy] W fun e w' => ∃ y, e = .returned y ∧ XArg 0 w' y Z 0 ∧ Below W.heap.size W w') (w : World) :
   Calls Tryz.prog 28 #[a.v, b.v, .agg #[.int .i64 k, .int .i64 (P : Int), .int .i64 (q : Int), .int .i64 0, .bool false, .string emp], fnv opf, .int .i64 L] w fun e w' => e = .returned (.tuple #[vaV k 0 (zQ k q) emp, .int .i64 9, .int .i64 0]) ∧ Below w.heap.size w w' := by
 refine rec_x (F := AnyCap k P q L) (za := a.num) (ua := a.den) (zb := b.num) (ub := b.den) (Z := Z) (U := 0) hcf ?_ (valid_num hT) (fun W => (exactly_num (P := fun c => W.heap.size ≤ c) a W (fun _ h => h) ra ka).mono fun _ _ ⟨y, he, hx, hb⟩ => ⟨y, he, hx, hb⟩) (fun W => (exactly_num (P := fun c => W.heap.size ≤ c) b W (fun _ h => h) rb kb).mono fun _ _ ⟨y, he, hx, hb⟩ => ⟨y, he, hx, hb⟩) (fun h hb => h.later hb) (fun W => fitting_any hT L W) hOP (fun W cap vx hF hX => fitting1_0 hT hF hX)
 intro t ht W
 rcases List.mem_cons.1 ht with rfl | ht
 · exact hRa W
 · rw [List.mem_singleton.1 ht]
   exact hRb W
set_option maxRecDepth 100000 in
set_option maxHeartbeats 2000000 in
theorem add_prog {k p q n : Int} {vy : Bool} {pic : ByteArray} (a b : Va) (w : World) {G : Int → Int → Int → Int → Int → Prop}
   (h : ∀ W, Calls Tryz.prog 28 #[a.v, b.v, tyV k p q n vy pic, fnv 29, .int .i64 2] W (Gives3 G W)) :
   Calls Tryz.prog 8 #[a.v, b.v, tyV k p q n vy pic] w (Gives3 G w) := by
 obtain ⟨ka, na, qa, sa⟩ := a
 obtain ⟨kb, nb, qb, sb⟩ := b
 have HR := Lib.hid h
 clear h
 have RZ := row_n3 w (.cells (vaC ka na qa sa) 23) (.cells (vaC kb nb qb sb) 23) (.cells #[.int .i64 k, .int .i64 p, .int .i64 q, .int .i64 n, .bool vy, .string pic] 25) (vaC 0 0 0 emp) 23
 go_enter Tryz.func8, Tryz.ntmps8
 go_wp2_with (go_at_call 28; (refine (HR.out _).mono ?_); rintro e w2 ⟨k1, N, Q, c, er, ⟨rfl, hb2⟩, hR⟩; have HQ := Lib.hid hR; clear hR; have Z2 := RZ.keep hb2; have B2 := Lib.hid (bl_box (Below.refl _ w |>.alloc (Nat.le_refl _) _ |>.alloc (by simp) _ |>.alloc (by simp; omega) _) hb2); obtain ⟨z0, z1, z2, z3⟩ := Z2.four; have f0 := Z2.free 0; have f1 := Z2.free 1; have f2 := Z2.free 2; have f3 := Z2.free 3)
 refine bodyPost_ret (v := .tuple #[valV k1 N Q ⟨#[]⟩, .int .i64 c, .int .i64 er]) (by simp [results, Tryz.results8, go_sem, z0, z1, z2, z3]) rfl ⟨k1, N, Q, c, er, ⟨rfl, ?_⟩, HQ.out⟩
 (repeat refine Below.setCell ?_ (by simp <;> omega) _)
 exact B2.out
set_option maxRecDepth 100000 in
set_option maxHeartbeats 2000000 in
theorem subtract_prog {k p q n : Int} {vy : Bool} {pic : ByteArray} (a b : Va) (w : World) {G : Int → Int → Int → Int → Int → Prop}
   (h : ∀ W, Calls Tryz.prog 28 #[a.v, b.v, tyV k p q n vy pic, fnv 23, .int .i64 2] W (Gives3 G W)) :
   Calls Tryz.prog 10 #[a.v, b.v, tyV k p q n vy pic] w (Gives3 G w) := by
 obtain ⟨ka, na, qa, sa⟩ := a
 obtain ⟨kb, nb, qb, sb⟩ := b
 have HR := Lib.hid h
 clear h
 have RZ := row_n3 w (.cells (vaC ka na qa sa) 23) (.cells (vaC kb nb qb sb) 23) (.cells #[.int .i64 k, .int .i64 p, .int .i64 q, .int .i64 n, .bool vy, .string pic] 25) (vaC 0 0 0 emp) 23
 go_enter Tryz.func10, Tryz.ntmps10
 go_wp2_with (go_at_call 28; (refine (HR.out _).mono ?_); rintro e w2 ⟨k1, N, Q, c, er, ⟨rfl, hb2⟩, hR⟩; have HQ := Lib.hid hR; clear hR; have Z2 := RZ.keep hb2; have B2 := Lib.hid (bl_box (Below.refl _ w |>.alloc (Nat.le_refl _) _ |>.alloc (by simp) _ |>.alloc (by simp; omega) _) hb2); obtain ⟨z0, z1, z2, z3⟩ := Z2.four; have f0 := Z2.free 0; have f1 := Z2.free 1; have f2 := Z2.free 2; have f3 := Z2.free 3)
 refine bodyPost_ret (v := .tuple #[valV k1 N Q ⟨#[]⟩, .int .i64 c, .int .i64 er]) (by simp [results, Tryz.results10, go_sem, z0, z1, z2, z3]) rfl ⟨k1, N, Q, c, er, ⟨rfl, ?_⟩, HQ.out⟩
 (repeat refine Below.setCell ?_ (by simp <;> omega) _)
 exact B2.out
set_option maxRecDepth 100000 in
set_option maxHeartbeats 2000000 in
theorem multiply_prog {k p q n : Int} {vy : Bool} {pic : ByteArray} (a b : Va) (w : World) {G : Int → Int → Int → Int → Int → Prop}
   (h : ∀ W, Calls Tryz.prog 28 #[a.v, b.v, tyV k p q n vy pic, fnv 31, .int .i64 2] W (Gives3 G W)) :
   Calls Tryz.prog 12 #[a.v, b.v, tyV k p q n vy pic] w (Gives3 G w) := by
 obtain ⟨ka, na, qa, sa⟩ := a
 obtain ⟨kb, nb, qb, sb⟩ := b
 have HR := Lib.hid h
 clear h
 have RZ := row_n3 w (.cells (vaC ka na qa sa) 23) (.cells (vaC kb nb qb sb) 23) (.cells #[.int .i64 k, .int .i64 p, .int .i64 q, .int .i64 n, .bool vy, .string pic] 25) (vaC 0 0 0 emp) 23
 go_enter Tryz.func12, Tryz.ntmps12
 go_wp2_with (go_at_call 28; (refine (HR.out _).mono ?_); rintro e w2 ⟨k1, N, Q, c, er, ⟨rfl, hb2⟩, hR⟩; have HQ := Lib.hid hR; clear hR; have Z2 := RZ.keep hb2; have B2 := Lib.hid (bl_box (Below.refl _ w |>.alloc (Nat.le_refl _) _ |>.alloc (by simp) _ |>.alloc (by simp; omega) _) hb2); obtain ⟨z0, z1, z2, z3⟩ := Z2.four; have f0 := Z2.free 0; have f1 := Z2.free 1; have f2 := Z2.free 2; have f3 := Z2.free 3)
 refine bodyPost_ret (v := .tuple #[valV k1 N Q ⟨#[]⟩, .int .i64 c, .int .i64 er]) (by simp [results, Tryz.results12, go_sem, z0, z1, z2, z3]) rfl ⟨k1, N, Q, c, er, ⟨rfl, ?_⟩, HQ.out⟩
 (repeat refine Below.setCell ?_ (by simp <;> omega) _)
 exact B2.out
set_option maxRecDepth 100000 in
set_option maxHeartbeats 2000000 in
theorem divide_prog {k p q n : Int} {vy : Bool} {pic : ByteArray} (a b : Va) (w : World) {G : Int → Int → Int → Int → Int → Prop}
   (h : ∀ W, Calls Tryz.prog 28 #[a.v, b.v, tyV k p q n vy pic, fnv 32, .int .i64 2] W (Gives3 G W)) :
   Calls Tryz.prog 14 #[a.v, b.v, tyV k p q n vy pic] w (Gives3 G w) := by
 obtain ⟨ka, na, qa, sa⟩ := a
 obtain ⟨kb, nb, qb, sb⟩ := b
 have HR := Lib.hid h
 clear h
 have RZ := row_n3 w (.cells (vaC ka na qa sa) 23) (.cells (vaC kb nb qb sb) 23) (.cells #[.int .i64 k, .int .i64 p, .int .i64 q, .int .i64 n, .bool vy, .string pic] 25) (vaC 0 0 0 emp) 23
 go_enter Tryz.func14, Tryz.ntmps14
 go_wp2_with (go_at_call 28; (refine (HR.out _).mono ?_); rintro e w2 ⟨k1, N, Q, c, er, ⟨rfl, hb2⟩, hR⟩; have HQ := Lib.hid hR; clear hR; have Z2 := RZ.keep hb2; have B2 := Lib.hid (bl_box (Below.refl _ w |>.alloc (Nat.le_refl _) _ |>.alloc (by simp) _ |>.alloc (by simp; omega) _) hb2); obtain ⟨z0, z1, z2, z3⟩ := Z2.four; have f0 := Z2.free 0; have f1 := Z2.free 1; have f2 := Z2.free 2; have f3 := Z2.free 3)
 refine bodyPost_ret (v := .tuple #[valV k1 N Q ⟨#[]⟩, .int .i64 c, .int .i64 er]) (by simp [results, Tryz.results14, go_sem, z0, z1, z2, z3]) rfl ⟨k1, N, Q, c, er, ⟨rfl, ?_⟩, HQ.out⟩
 (repeat refine Below.setCell ?_ (by simp <;> omega) _)
 exact B2.out
set_option maxRecDepth 100000 in
set_option maxHeartbeats 2000000 in
theorem modulo_prog {k p q n : Int} {vy : Bool} {pic : ByteArray} (a b : Va) (w : World) {G : Int → Int → Int → Int → Int → Prop}
   (h : ∀ W, Calls Tryz.prog 28 #[a.v, b.v, tyV k p q n vy pic, fnv 33, .int .i64 4] W (Gives3 G W)) :
   Calls Tryz.prog 16 #[a.v, b.v, tyV k p q n vy pic] w (Gives3 G w) := by
 obtain ⟨ka, na, qa, sa⟩ := a
 obtain ⟨kb, nb, qb, sb⟩ := b
 have HR := Lib.hid h
 clear h
 have RZ := row_n3 w (.cells (vaC ka na qa sa) 23) (.cells (vaC kb nb qb sb) 23) (.cells #[.int .i64 k, .int .i64 p, .int .i64 q, .int .i64 n, .bool vy, .string pic] 25) (vaC 0 0 0 emp) 23
 go_enter Tryz.func16, Tryz.ntmps16
 go_wp2_with (go_at_call 28; (refine (HR.out _).mono ?_); rintro e w2 ⟨k1, N, Q, c, er, ⟨rfl, hb2⟩, hR⟩; have HQ := Lib.hid hR; clear hR; have Z2 := RZ.keep hb2; have B2 := Lib.hid (bl_box (Below.refl _ w |>.alloc (Nat.le_refl _) _ |>.alloc (by simp) _ |>.alloc (by simp; omega) _) hb2); obtain ⟨z0, z1, z2, z3⟩ := Z2.four; have f0 := Z2.free 0; have f1 := Z2.free 1; have f2 := Z2.free 2; have f3 := Z2.free 3)
 refine bodyPost_ret (v := .tuple #[valV k1 N Q ⟨#[]⟩, .int .i64 c, .int .i64 er]) (by simp [results, Tryz.results16, go_sem, z0, z1, z2, z3]) rfl ⟨k1, N, Q, c, er, ⟨rfl, ?_⟩, HQ.out⟩
 (repeat refine Below.setCell ?_ (by simp <;> omega) _)
 exact B2.out
set_option maxRecDepth 100000 in
set_option maxHeartbeats 2000000 in
theorem fitting_no4 (p q n L : Int) (vy : Bool) (pic : ByteArray) (w : World) :
   Calls Tryz.prog 57 #[tyV 4 p q n vy pic, .int .i64 0, .int .i64 L] w fun e w' => e = dRef 10 ∧ Below w.heap.size w w' := by
 have q5 := fld_5
 have qn : ∀ (w : World), (binOp .eql 69 .nilFunc .nilFunc).run Tryz.prog w = .ok (.bool true) w := fun _ => by kernel_rfl
 have RT := Row.new w #[.int .i64 4, .int .i64 p, .int .i64 q, .int .i64 n, .bool vy, .string pic] 25
 have t0 : (w.alloc (.cells #[.int .i64 4, .int .i64 p, .int .i64 q, .int .i64 n, .bool vy, .string pic] 25)).cell? ⟨w.heap.size, 0, none⟩ = some (.int .i64 4) := RT.at 0
 go_enter Tryz.func57, Tryz.ntmps57
 go_wp2_with (first
   | (go_at_call 44; refine (rules_4 _).mono ?_; rintro e w1 ⟨rfl, hb1⟩; have HB := Lib.hid (bl_box (Below.refl _ w) hb1); clear hb1)
   | (go_at_call 47; refine (dRefuse _ _).mono ?_; rintro e w3 ⟨rfl, rfl⟩))
 first
   | exact ⟨rfl, HB.out⟩
   | exact ⟨rfl, rfl, HB.out⟩
set_option maxRecDepth 100000 in
set_option maxHeartbeats 2000000 in
theorem fitting_no5 (p q n L : Int) (vy : Bool) (pic : ByteArray) (w : World) :
   Calls Tryz.prog 57 #[tyV 5 p q n vy pic, .int .i64 0, .int .i64 L] w fun e w' => e = dRef 10 ∧ Below w.heap.size w w' := by
 have q5 := fld_5
 have qn : ∀ (w : World), (binOp .eql 69 .nilFunc .nilFunc).run Tryz.prog w = .ok (.bool true) w := fun _ => by kernel_rfl
 have RT := Row.new w #[.int .i64 5, .int .i64 p, .int .i64 q, .int .i64 n, .bool vy, .string pic] 25
 have t0 : (w.alloc (.cells #[.int .i64 5, .int .i64 p, .int .i64 q, .int .i64 n, .bool vy, .string pic] 25)).cell? ⟨w.heap.size, 0, none⟩ = some (.int .i64 5) := RT.at 0
 go_enter Tryz.func57, Tryz.ntmps57
 go_wp2_with (first
   | (go_at_call 44; refine (rules_5 _).mono ?_; rintro e w1 ⟨rfl, hb1⟩; have HB := Lib.hid (bl_box (Below.refl _ w) hb1); clear hb1)
   | (go_at_call 47; refine (dRefuse _ _).mono ?_; rintro e w3 ⟨rfl, rfl⟩))
 first
   | exact ⟨rfl, HB.out⟩
   | exact ⟨rfl, rfl, HB.out⟩
set_option maxRecDepth 100000 in
set_option maxHeartbeats 2000000 in
theorem fitting_no6 (p q n L : Int) (vy : Bool) (pic : ByteArray) (w : World) :
   Calls Tryz.prog 57 #[tyV 6 p q n vy pic, .int .i64 0, .int .i64 L] w fun e w' => e = dRef 10 ∧ Below w.heap.size w w' := by
 have q5 := fld_5
 have qn : ∀ (w : World), (binOp .eql 69 .nilFunc .nilFunc).run Tryz.prog w = .ok (.bool true) w := fun _ => by kernel_rfl
 have RT := Row.new w #[.int .i64 6, .int .i64 p, .int .i64 q, .int .i64 n, .bool vy, .string pic] 25
 have t0 : (w.alloc (.cells #[.int .i64 6, .int .i64 p, .int .i64 q, .int .i64 n, .bool vy, .string pic] 25)).cell? ⟨w.heap.size, 0, none⟩ = some (.int .i64 6) := RT.at 0
 go_enter Tryz.func57, Tryz.ntmps57
 go_wp2_with (first
   | (go_at_call 44; refine (rules_6 _).mono ?_; rintro e w1 ⟨rfl, hb1⟩; have HB := Lib.hid (bl_box (Below.refl _ w) hb1); clear hb1)
   | (go_at_call 47; refine (dRefuse _ _).mono ?_; rintro e w3 ⟨rfl, rfl⟩))
 first
   | exact ⟨rfl, HB.out⟩
   | exact ⟨rfl, rfl, HB.out⟩
set_option maxRecDepth 100000 in
set_option maxHeartbeats 2000000 in
theorem fitting_no7 (p q n L : Int) (vy : Bool) (pic : ByteArray) (w : World) :
   Calls Tryz.prog 57 #[tyV 7 p q n vy pic, .int .i64 0, .int .i64 L] w fun e w' => e = dRef 10 ∧ Below w.heap.size w w' := by
 have q5 := fld_5
 have qn : ∀ (w : World), (binOp .eql 69 .nilFunc .nilFunc).run Tryz.prog w = .ok (.bool true) w := fun _ => by kernel_rfl
 have RT := Row.new w #[.int .i64 7, .int .i64 p, .int .i64 q, .int .i64 n, .bool vy, .string pic] 25
 have t0 : (w.alloc (.cells #[.int .i64 7, .int .i64 p, .int .i64 q, .int .i64 n, .bool vy, .string pic] 25)).cell? ⟨w.heap.size, 0, none⟩ = some (.int .i64 7) := RT.at 0
 go_enter Tryz.func57, Tryz.ntmps57
 go_wp2_with (first
   | (go_at_call 44; refine (rules_7 _).mono ?_; rintro e w1 ⟨rfl, hb1⟩; have HB := Lib.hid (bl_box (Below.refl _ w) hb1); clear hb1)
   | (go_at_call 47; refine (dRefuse _ _).mono ?_; rintro e w3 ⟨rfl, rfl⟩))
 first
   | exact ⟨rfl, HB.out⟩
   | exact ⟨rfl, rfl, HB.out⟩
set_option maxRecDepth 100000 in
set_option maxHeartbeats 2000000 in
theorem fitting_no8 (p q n L : Int) (vy : Bool) (pic : ByteArray) (w : World) :
   Calls Tryz.prog 57 #[tyV 8 p q n vy pic, .int .i64 0, .int .i64 L] w fun e w' => e = dRef 10 ∧ Below w.heap.size w w' := by
 have q5 := fld_5
 have qn : ∀ (w : World), (binOp .eql 69 .nilFunc .nilFunc).run Tryz.prog w = .ok (.bool true) w := fun _ => by kernel_rfl
 have RT := Row.new w #[.int .i64 8, .int .i64 p, .int .i64 q, .int .i64 n, .bool vy, .string pic] 25
 have t0 : (w.alloc (.cells #[.int .i64 8, .int .i64 p, .int .i64 q, .int .i64 n, .bool vy, .string pic] 25)).cell? ⟨w.heap.size, 0, none⟩ = some (.int .i64 8) := RT.at 0
 go_enter Tryz.func57, Tryz.ntmps57
 go_wp2_with (first
   | (go_at_call 44; refine (rules_8 _).mono ?_; rintro e w1 ⟨rfl, hb1⟩; have HB := Lib.hid (bl_box (Below.refl _ w) hb1); clear hb1)
   | (go_at_call 47; refine (dRefuse _ _).mono ?_; rintro e w3 ⟨rfl, rfl⟩))
 first
   | exact ⟨rfl, HB.out⟩
   | exact ⟨rfl, rfl, HB.out⟩
set_option maxRecDepth 100000 in
set_option maxHeartbeats 2000000 in
theorem fitting_no9 (p q n L : Int) (vy : Bool) (pic : ByteArray) (w : World) :
   Calls Tryz.prog 57 #[tyV 9 p q n vy pic, .int .i64 0, .int .i64 L] w fun e w' => e = dRef 10 ∧ Below w.heap.size w w' := by
 have q5 := fld_5
 have qn : ∀ (w : World), (binOp .eql 69 .nilFunc .nilFunc).run Tryz.prog w = .ok (.bool true) w := fun _ => by kernel_rfl
 have RT := Row.new w #[.int .i64 9, .int .i64 p, .int .i64 q, .int .i64 n, .bool vy, .string pic] 25
 have t0 : (w.alloc (.cells #[.int .i64 9, .int .i64 p, .int .i64 q, .int .i64 n, .bool vy, .string pic] 25)).cell? ⟨w.heap.size, 0, none⟩ = some (.int .i64 9) := RT.at 0
 go_enter Tryz.func57, Tryz.ntmps57
 go_wp2_with (first
   | (go_at_call 44; refine (rules_9 _).mono ?_; rintro e w1 ⟨rfl, hb1⟩; have HB := Lib.hid (bl_box (Below.refl _ w) hb1); clear hb1)
   | (go_at_call 47; refine (dRefuse _ _).mono ?_; rintro e w3 ⟨rfl, rfl⟩))
 first
   | exact ⟨rfl, HB.out⟩
   | exact ⟨rfl, rfl, HB.out⟩
theorem fitting_no {k : Int} (h : 4 ≤ k ∧ k ≤ 9) (p q n L : Int) (vy : Bool) (pic : ByteArray) (w : World) :
   Calls Tryz.prog 57 #[tyV k p q n vy pic, .int .i64 0, .int .i64 L] w fun e w' => e = dRef 10 ∧ Below w.heap.size w w' := by
 obtain rfl | rfl | rfl | rfl | rfl | rfl : k = 4 ∨ k = 5 ∨ k = 6 ∨ k = 7 ∨ k = 8 ∨ k = 9 := by omega
 · exact fitting_no4 p q n L vy pic w
 · exact fitting_no5 p q n L vy pic w
 · exact fitting_no6 p q n L vy pic w
 · exact fitting_no7 p q n L vy pic w
 · exact fitting_no8 p q n L vy pic w
 · exact fitting_no9 p q n L vy pic w
end Go.Proofs.YtpdoddhieblooaaGreatDoor
