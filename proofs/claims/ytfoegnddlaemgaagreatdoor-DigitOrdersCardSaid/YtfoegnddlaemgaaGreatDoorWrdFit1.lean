/- digit.fitFixed: what its closure captures. -/
import Derived.Test.YtfoegnddlaemgaaGreatDoorWrdMid
import Derived.Laws.EntriesVeiled
import Derived.Deep.RegionWith
namespace Go.Proofs.YtfoegnddlaemgaaGreatDoor
open Go.RowKit

/-- What stands behind fitFixed's first line: the boxes of the scale and of the bound. -/
def FixRel (W : World) (S Bd : Nat) (s9 s10 : Value) (wx : World) : Prop :=
  ∃ bS bB v1 v2, s9 = ptD bS ∧ s10 = ptD bB ∧ Row wx bS #[v1] 48 ∧ Row wx bB #[v2] 48 ∧ WArg 0 wx v1 S ∧ WArg 0 wx v2 Bd ∧ Below W.heap.size W wx
theorem fixRel_mk {W wx w2 w3 : World} {S Bd bS bB B2 B3 : Nat} {v1 v2 : Value} (h1 : Row wx bS #[v1] 48) (h2 : Row wx bB #[v2] 48) (h3 : WArg B2 w2 v1 S) (h4 : WArg B3 w3 v2 Bd) (m2 : Mid B2 w2 wx) (m3 : Mid B3 w3 wx) (hB : Below W.heap.size W wx) :
    FixRel W S Bd (ptD bS) (ptD bB) wx := ⟨bS, bB, v1, v2, rfl, rfl, h1, h2, (h3.mid m2).base (Nat.zero_le _), (h4.mid m3).base (Nat.zero_le _), hB⟩
/-- What fitFixed's closure captures. -/
def FixCap (w : World) (cap : Array Value) (k n : Int) (p q : Nat) (vy : Bool) (pic : ByteArray) (S Bd : Nat) (L : Int) : Prop :=
  ∃ bS bE bB bL bT v1 v2, cap = #[ptD bS, ptD bE, ptD bB, ptD bL, ptD bT] ∧ Row w bS #[v1] 48 ∧ Row w bB #[v2] 48 ∧ WArg 0 w v1 S ∧ WArg 0 w v2 Bd ∧ Row w bE #[.int .i64 0] 68 ∧ Row w bL #[.int .i64 L] 3 ∧ Row w bT #[.int .i64 k, .int .i64 (p : Int), .int .i64 (q : Int), .int .i64 n, .bool vy, .string pic] 42
theorem FixCap.later {w w' : World} {cap : Array Value} {k n : Int} {p q : Nat} {vy : Bool} {pic : ByteArray} {S Bd : Nat} {L : Int} (h : FixCap w cap k n p q vy pic S Bd L) (hb : Below w.heap.size w w') : FixCap w' cap k n p q vy pic S Bd L := by
  obtain ⟨bS, bE, bB, bL, bT, v1, v2, e, h1, h2, h3, h4, h5, h6, h7⟩ := h
  exact ⟨bS, bE, bB, bL, bT, v1, v2, e, h1.keep hb, h2.keep hb, h3.keep hb (Nat.le_refl _), h4.keep hb (Nat.le_refl _), h5.keep hb, h6.keep hb, h7.keep hb⟩

set_option maxRecDepth 100000 in
set_option maxHeartbeats 4000000 in
theorem fitFixed_c (k n L : Int) (p q b S Bd : Nat) (vy : Bool) (pic : ByteArray) (w : World) (hS : ∀ W, Calls Tryz.prog 60 #[.int .i64 (b : Int), .int .i64 (q : Int)] W (GivesW W S)) (hBd : ∀ W, Calls Tryz.prog 60 #[.int .i64 (b : Int), .int .i64 (p : Int)] W (GivesW W Bd)) :
    Calls Tryz.prog 61 #[.agg #[.int .i64 k, .int .i64 (p : Int), .int .i64 (q : Int), .int .i64 n, .bool vy, .string pic], .int .i64 (b : Int), .int .i64 0, .int .i64 L] w fun e w' => ∃ cap, e = .returned (.func (.func 89) #[] cap) ∧ FixCap w' cap k n p q vy pic S Bd L ∧ Below w.heap.size w w' := by
  have hmf : ∀ (fn : Fn) (first cap : Array Value) (w : World), (Instr.makeFunc fn first cap).run Tryz.prog w = .ok (.func fn first cap) w := fun _ _ _ _ => rfl
  have HS := Lib.hid hS
  have HBd := Lib.hid hBd
  clear hS hBd
  have RT := ((Row.new w #[.int .i64 k, .int .i64 (p : Int), .int .i64 (q : Int), .int .i64 n, .bool vy, .string pic] 42).alloc (.cells #[.int .i64 0] 68)).alloc (.cells #[.int .i64 L] 3)
  have RE := (Row.new2 w (.cells #[.int .i64 k, .int .i64 (p : Int), .int .i64 (q : Int), .int .i64 n, .bool vy, .string pic] 42) #[.int .i64 0] 68).alloc (.cells #[.int .i64 L] 3)
  have RL := Row.new3 w (.cells #[.int .i64 k, .int .i64 (p : Int), .int .i64 (q : Int), .int .i64 n, .bool vy, .string pic] 42) (.cells #[.int .i64 0] 68) #[.int .i64 L] 3
  go_enter Tryz.func61, Tryz.ntmps61
  go_wp2
  generalize hw : ((w.alloc (.cells #[.int .i64 k, .int .i64 (p : Int), .int .i64 (q : Int), .int .i64 n, .bool vy, .string pic] 42)).alloc (.cells #[.int .i64 0] 68)).alloc (.cells #[.int .i64 L] 3) = W at *
  have B0 : Hid (Below w.heap.size w W) := by show Below _ _ _; rw [← hw]; go_grown
  clear hw
  have x1 := RT.at 1
  have x2 := RT.at 2
  have x1 : W.cell? ⟨w.heap.size, 1, none⟩ = some (.int .i64 (p : Int)) := x1
  have x2 : W.cell? ⟨w.heap.size, 2, none⟩ = some (.int .i64 (q : Int)) := x2
  have KS : Hid (∀ w', Below W.heap.size W w' → Below W.heap.size W w' ∧ w'.cell? ⟨w.heap.size, 1, none⟩ = some (.int .i64 (p : Int)) ∧ w'.cell? ⟨w.heap.size, 2, none⟩ = some (.int .i64 (q : Int))) := by
    show ∀ _, _
    exact fun w' h => ⟨h, (RT.keep h).at 1, (RT.keep h).at 2⟩
  go_cut [9, 10] (fun s9 s10 wx => FixRel W S Bd s9 s10 wx)
  case first =>
    go_region_held3 (fun w' => Below W.heap.size W w' ∧ w'.cell? ⟨w.heap.size, 1, none⟩ = some (.int .i64 (p : Int)) ∧ w'.cell? ⟨w.heap.size, 2, none⟩ = some (.int .i64 (q : Int)))
      (exact KS.out _ (by (repeat' (with_reducible first | assumption | exact Below.refl _ _ | exact (Below.refl _ _).drew | refine Below.drew ?_ | refine Below.alloc ?_ (by first | omega | (simp; omega) | simp) _ | refine Below.setCell ?_ (by first | omega | (simp; omega) | simp) _))))
      (first
        | (go_at_call 60; first
          | ((with_reducible refine (HS.out _).mono ?_); rintro e w2 ⟨v2, rfl, W2, hb2⟩; have C2 : Below W.heap.size W w2 := (by refine bl_then ?_ hb2; (repeat' (with_reducible first | assumption | exact Below.refl _ _ | exact (Below.refl _ _).drew | refine Below.drew ?_ | refine Below.alloc ?_ (by first | omega | (simp; omega) | simp) _ | refine Below.setCell ?_ (by first | omega | (simp; omega) | simp) _))); have z2 := C2.size; have W2' := Lib.hid W2; obtain ⟨pp2, k2, rfl⟩ := W2.slice; clear W2; (try have P2 : Row w2 W.heap.size #[.slice none 0 0] 48 := (by first | exact Row.keep (Row.new W _ _).drew hb2 | exact Row.keep ((Row.new W _ _).alloc _).drew hb2)); (try have Q2 : Row w2 (W.heap.size + 1) #[.slice none 0 0] 48 := Row.keep (Row.new2 W _ _ _).drew hb2))
          | ((with_reducible refine (HBd.out _).mono ?_); rintro e w3 ⟨v3, rfl, W3, hb3⟩; have C3 : Below W.heap.size W w3 := (by refine bl_then ?_ hb3; (repeat' (with_reducible first | assumption | exact Below.refl _ _ | exact (Below.refl _ _).drew | refine Below.drew ?_ | refine Below.alloc ?_ (by first | omega | (simp; omega) | simp) _ | refine Below.setCell ?_ (by first | omega | (simp; omega) | simp) _))); have z3 := C3.size; have W3' := Lib.hid W3; obtain ⟨pp3, k3, rfl⟩ := W3.slice; clear W3; (try have P3 : Row w3 W.heap.size #[.slice none 0 0] 48 := (by first | exact Row.keep P2 hb3 | exact Row.keep (P2.alloc _) hb3)); (try have Q3 : Row w3 (W.heap.size + 1) #[.slice none 0 0] 48 := Row.keep Q2 hb3); (try have U3 : Row w3 w2.heap.size #[.slice none 0 0] 48 := (by first | exact Row.keep (Row.new w2 _ _) hb3 | exact Row.keep ((Row.new w2 _ _).alloc _) hb3)); (try have V3 : Row w3 (w2.heap.size + 1) #[.slice none 0 0] 48 := Row.keep (Row.new2 w2 _ _ _) hb3); (try have p0 := P3.one); (try have pf := P3.free 0); (try have q0 := Q3.one); (try have qf := Q3.free 0); (try have u0 := U3.one); (try have uf := U3.free 0); (try have v0 := V3.one); (try have vf := V3.free 0); have hb3z := hb3.size; have hb2z := hb2.size; (try simp at hb3z); (try simp at hb2z); (try have lp := P3.lt); (try have lq := Q3.lt); (try have lu := U3.lt); (try have lv := V3.lt); (try have lp2 := P2.lt); (try have ne1 : ¬ W.heap.size = w2.heap.size := (by omega)); (try have ne2 : ¬ w2.heap.size = W.heap.size := (by omega)))))
    all_goals
      go_wp2_with fail
      go_meet
      refine fixRel_mk (w2 := w2) (w3 := w3) ?_ ?_ W2'.out W3'.out ?_ ?_ ?_
      case refine_5 => (repeat' (with_reducible first | assumption | exact Below.refl _ _ | exact (Below.refl _ _).drew | refine Below.drew ?_ | refine Below.alloc ?_ (by first | omega | (simp; omega) | simp) _ | refine Below.setCell ?_ (by first | omega | (simp; omega) | simp) _))
      case refine_3 => (repeat' (with_reducible first | exact Mid.refl _ _ | refine Mid.alloc ?_ _ | refine Mid.setCell ?_ (by first | omega | (simp; done) | (simp; omega) | (left; simp; omega) | (right; simp; omega)) _ | refine Mid.drew ?_ | refine Mid.call ?_ hb3))
      case refine_4 => (repeat' (with_reducible first | exact Mid.refl _ _ | refine Mid.alloc ?_ _ | refine Mid.setCell ?_ (by first | omega | (simp; done) | (simp; omega) | (left; simp; omega) | (right; simp; omega)) _ | refine Mid.drew ?_ | refine Mid.call ?_ hb3))
      all_goals (repeat' (with_reducible first | assumption | exact Row.new _ _ _ | exact row_newc _ _ _ _ _ | exact Row.new2 _ _ _ _ | refine Row.alloc ?_ _ | refine row_put0 ?_ | refine Row.set ?_ (by simp only [ne_eq]; omega)))
  case rest =>
    obtain ⟨W1, rfl⟩ : ∃ W1 : World, W1 = wc := ⟨_, rfl⟩
    obtain ⟨bS, bB, v1, v2, rfl, rfl, R1, R2, A1, A2, BB⟩ := hcut
    have HC : Hid (FixCap W1 #[ptD bS, ptD (w.heap.size + 1), ptD bB, ptD (w.heap.size + 1 + 1), ptD w.heap.size] k n p q vy pic S Bd L) := Lib.hid ⟨_, _, _, _, _, _, _, rfl, R1, R2, A1, A2, RE.keep BB, RL.keep BB, RT.keep BB⟩
    have HB := Lib.hid (bl_then B0.out BB)
    clear RT RE RL R1 R2 A1 A2 BB
    go_wp2
    go_ret
    exact ⟨_, rfl, HC.out, HB.out⟩
end Go.Proofs.YtfoegnddlaemgaaGreatDoor
