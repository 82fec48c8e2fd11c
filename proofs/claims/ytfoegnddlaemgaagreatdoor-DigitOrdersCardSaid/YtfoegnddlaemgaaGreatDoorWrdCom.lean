/- digit.Compare: its closure, where both values are numbers. -/
import Derived.Test.YtfoegnddlaemgaaGreatDoorWrdNum
import Derived.Test.YtfoegnddlaemgaaGreatDoorWrdGuard
namespace Go.Proofs.YtfoegnddlaemgaaGreatDoor
open Go.RowKit

/-- How Compare's closure ends: with an error, or with the order laid into the caller's result. -/
def CmpD (a b : Va) (po : Nat) (w : World) (e : Ending) (w' : World) : Prop :=
  ∃ w1, Below w.heap.size w w1 ∧ ((∃ n, n ≠ 0 ∧ e = dRef n ∧ w' = w1) ∨ (e = .returned (.tuple #[]) ∧ a.right ∧ b.right ∧ a.number ∧ b.number ∧ w' = w1.setCell ⟨po, 0, none⟩ (.int .i64 (sgnZ (plN a.num a.den (-b.num) b.den)))))
abbrev TT : Nat → Prop := fun _ => True
theorem plN_len {a b : Int} {u t : Nat} (la : (wrds a.natAbs).length ≤ 4000) (lb : (wrds b.natAbs).length ≤ 4000) (lu : (wrds u).length ≤ 4000) (lt : (wrds t).length ≤ 4000) : (wrds (plN a u (-b) t).natAbs).length ≤ 1000000 := by
  unfold plN
  split
  · have h0 := wrds_le_len (Int.natAbs_add_le a (-b))
    have h := wrds_add_len a.natAbs (-b).natAbs
    rw [Int.natAbs_neg] at h h0
    omega
  · have h0 := wrds_le_len (Int.natAbs_add_le (a * t) (-b * u))
    have h := wrds_add_len (a * t).natAbs (-b * u).natAbs
    rw [Int.natAbs_mul, Int.natAbs_mul, Int.natAbs_neg, Int.natAbs_natCast, Int.natAbs_natCast] at h h0
    have h1 := wrds_mul_len a.natAbs t
    have h2 := wrds_mul_len b.natAbs u
    omega
abbrev Va.row (t : Va) : Array Value := #[.int .i64 t.k, .int .i64 t.n, .int .i64 t.q, .string t.s]
theorem VasAt.two {w : World} {c : Nat} {a b : Va} {t : TypeId} (h : Row w c #[.int .i64 a.k, .int .i64 a.n, .int .i64 a.q, .string a.s, .int .i64 b.k, .int .i64 b.n, .int .i64 b.q, .string b.s] t) : VasAt w c 0 [a, b] := by
  intro i hi j v hv
  have hi2 : i = 0 ∨ i = 1 := by simp at hi; omega
  rcases hi2 with rfl | rfl
  · rcases j with _ | _ | _ | _ | j
    · exact (h.at 0).trans hv
    · exact (h.at 1).trans hv
    · exact (h.at 2).trans hv
    · exact (h.at 3).trans hv
    · simp at hv
  · rcases j with _ | _ | _ | _ | j
    · exact (h.at 4).trans hv
    · exact (h.at 5).trans hv
    · exact (h.at 6).trans hv
    · exact (h.at 7).trans hv
    · simp at hv

set_option maxRecDepth 100000 in
set_option maxHeartbeats 4000000 in
theorem cmp1_yes (a b : Va) (pa pb po : Nat) (x : Int) (w : World) (ha : Row w pa a.row 23) (hb : Row w pb b.row 23) (ho : Row w po #[.int .i64 x] 3) (hR : ∀ t ∈ [a, b], ∀ W : World, Calls Tryz.prog 4 #[t.v] W (SomeD t.right W)) (na : a.number) (nb : b.number) (hpa : ¬ po = pa) (hpb : ¬ po = pb) :
    Calls Tryz.prog 11 #[.pointer (some ⟨pa, 0, none⟩), .pointer (some ⟨pb, 0, none⟩), .pointer (some ⟨po, 0, none⟩)] w (CmpD a b po w) := by
  obtain ⟨ka, xa, qa, sa⟩ := a
  obtain ⟨kb, xb, qb, sb⟩ := b
  have HR := Lib.hid hR
  have hpa' : ¬ pa = po := fun h => hpa h.symm
  have hpb' : ¬ pb = po := fun h => hpb h.symm
  have NA := Lib.hid na
  have NB := Lib.hid nb
  clear hR na nb
  have RA := ha
  have RB := hb
  have RO := ho
  obtain ⟨a0, a1, a2, a3⟩ := ha.four
  obtain ⟨b0, b1, b2, b3⟩ := hb.four
  have la := ha.lt
  have lb := hb.lt
  have lo := ho.lt
  clear ha hb ho
  have RN := Row.new w #[.int .i64 ka, .int .i64 xa, .int .i64 qa, .string sa, .int .i64 kb, .int .i64 xb, .int .i64 qb, .string sb] 23
  go_enter Tryz.func11, Tryz.ntmps11
  go_wp2_with (go_at_call 12; refine (demRight [⟨ka, xa, qa, sa⟩, ⟨kb, xb, qb, sb⟩] Va.right _ 0 _ _ (VasAt.two RN) (by simp) RN.lt HR.out).mono ?_; rintro e w1 ⟨⟨rfl, hr⟩ | rfl, hb1⟩; have HB1 := Lib.hid (bl_box (Below.refl _ w) hb1))
  · have ra := Lib.hid (hr ⟨ka, xa, qa, sa⟩ (by simp))
    have rb := Lib.hid (hr ⟨kb, xb, qb, sb⟩ (by simp))
    clear hr RN
    have A1 : Row w1 pa (vaC ka xa qa sa) 23 := RA.keep HB1.out
    have B1 : Row w1 pb (vaC kb xb qb sb) 23 := RB.keep HB1.out
    have O1 := RO.keep HB1.out
    clear RA RB RO hb1 a0 a1 a2 a3 b0 b1 b2 b3 la lb lo HR
    obtain ⟨N, hN⟩ : ∃ N, plN (Va.mk ka xa qa sa).num (Va.mk ka xa qa sa).den (-(Va.mk kb xb qb sb).num) (Va.mk kb xb qb sb).den = N := ⟨_, rfl⟩
    obtain ⟨U, hU⟩ : ∃ U, plU (Va.mk ka xa qa sa).den (Va.mk kb xb qb sb).den = U := ⟨_, rfl⟩
    have l1 := Va.num_len _ ra.out NA.out
    have l2 := Va.num_len _ rb.out NB.out
    have l3 := Va.den_len _ ra.out NA.out
    have l4 := Va.den_len _ rb.out NB.out
    have lN : (wrds N.natAbs).length ≤ 1000000 := by rw [← hN]; exact plN_len l1 l2 l3 l4
    have HXA : Hid (∀ W : World, Calls Tryz.prog 13 #[vaV ka xa qa sa] W fun e w' => ∃ y, e = .returned y ∧ XArgP TT w' y (Va.mk ka xa qa sa).num (Va.mk ka xa qa sa).den ∧ Below W.heap.size W w') := Lib.hid fun W => exactly_num ⟨ka, xa, qa, sa⟩ W (fun _ _ => trivial) ra.out NA.out
    have HXB : Hid (∀ W : World, Calls Tryz.prog 13 #[vaV kb xb qb sb] W fun e w' => ∃ y, e = .returned y ∧ XArgP TT w' y (Va.mk kb xb qb sb).num (Va.mk kb xb qb sb).den ∧ Below W.heap.size W w') := Lib.hid fun W => exactly_num ⟨kb, xb, qb, sb⟩ W (fun _ _ => trivial) rb.out NB.out
    have HMI : Hid (∀ (va vb : Value) (W : World), XArgP TT W va (Va.mk ka xa qa sa).num (Va.mk ka xa qa sa).den → XArgP TT W vb (Va.mk kb xb qb sb).num (Va.mk kb xb qb sb).den → Calls Tryz.prog 14 #[va, vb] W fun e w' => ∃ y, e = .returned y ∧ XArgP TT w' y N U ∧ Below W.heap.size W w') := Lib.hid fun va vb W h1 h2 => by
      rw [← hN, ← hU]; exact minus_x h1 h2 (fun _ _ => trivial) l1 l2 l3 l4
    obtain ⟨G, hG⟩ : ∃ G, sgnZ N = G := ⟨_, rfl⟩
    have HSI : Hid (∀ (v : Value) (W : World), XArgP TT W v N U → Calls Tryz.prog 15 #[v] W fun e w' => e = .returned (.int .i64 G) ∧ Below W.heap.size W w') := Lib.hid fun v W h => by
      rw [← hG]; exact sign_x h.x lN
    have HE : Hid (G = sgnZ (plN (Va.mk ka xa qa sa).num (Va.mk ka xa qa sa).den (-(Va.mk kb xb qb sb).num) (Va.mk kb xb qb sb).den)) := Lib.hid (by rw [hN, hG])
    clear hN hU hG l1 l2 l3 l4 lN
    obtain ⟨an, han⟩ : ∃ n, (Va.mk ka xa qa sa).num = n := ⟨_, rfl⟩
    obtain ⟨ad, had⟩ : ∃ n, (Va.mk ka xa qa sa).den = n := ⟨_, rfl⟩
    obtain ⟨bn, hbn⟩ : ∃ n, (Va.mk kb xb qb sb).num = n := ⟨_, rfl⟩
    obtain ⟨bd, hbd⟩ : ∃ n, (Va.mk kb xb qb sb).den = n := ⟨_, rfl⟩
    rw [han, had] at HXA HMI
    rw [hbn, hbd] at HXB HMI
    clear han had hbn hbd
    obtain ⟨a0, a1, a2, a3⟩ := A1.four
    obtain ⟨b0, b1, b2, b3⟩ := B1.four
    go_region_held3 (fun w' => (w'.cell? ⟨pa, 0, none⟩ = some (.int .i64 ka) ∧ w'.cell? ⟨pa, 1, none⟩ = some (.int .i64 xa) ∧ w'.cell? ⟨pa, 2, none⟩ = some (.int .i64 qa) ∧ w'.cell? ⟨pa, 3, none⟩ = some (.string sa)) ∧ (w'.cell? ⟨pb, 0, none⟩ = some (.int .i64 kb) ∧ w'.cell? ⟨pb, 1, none⟩ = some (.int .i64 xb) ∧ w'.cell? ⟨pb, 2, none⟩ = some (.int .i64 qb) ∧ w'.cell? ⟨pb, 3, none⟩ = some (.string sb)))
      (first | go_keep | exact ⟨A5.four, B5.four⟩ | exact ⟨A4.four, B4.four⟩ | exact ⟨A3.four, B3.four⟩ | exact ⟨A2.four, B2.four⟩ | ((try dsimp only); (repeat' apply And.intro) <;> go_keep))
      (first
        | (go_at_call 13; (with_reducible refine (HXA.out _).mono ?_); rintro e w2 ⟨y2, rfl, X2, hb2⟩; have A2 := A1.keep (bl_drew hb2); have B2 := B1.keep (bl_drew hb2))
        | (go_at_call 13; (with_reducible refine (HXB.out _).mono ?_); rintro e w3 ⟨y3, rfl, Y3, hb3⟩; have A3 := A2.keep hb3; have B3 := B2.keep hb3; have X3 := X2.keep hb3 (Nat.le_refl _))
        | (go_at_call 14; (with_reducible refine (HMI.out _ _ _ X3 Y3).mono ?_); rintro e w4 ⟨y4, rfl, Z4, hb4⟩; have A4 := A3.keep hb4; have B4 := B3.keep hb4)
        | (go_at_call 15; (with_reducible refine (HSI.out _ _ Z4).mono ?_); rintro e w5 ⟨rfl, hb5⟩; have A5 := A4.keep hb5; have B5 := B4.keep hb5; have O5 := (((O1.keep (bl_drew hb2)).keep hb3).keep hb4).keep hb5; have o5 := O5.one; have f5 := O5.free 0))
    all_goals go_wp2
    all_goals go_end0
    all_goals exact ⟨w5, bl_then HB1.out (bl_then (bl_then (bl_then (bl_drew hb2) hb3) hb4) hb5), Or.inr ⟨rfl, ra.out, rb.out, NA.out, NB.out, by rw [HE.out]⟩⟩
  · exact ⟨rfl, w1, bl_box (Below.refl _ w) hb1, Or.inl ⟨1, by decide, rfl, rfl⟩⟩
end Go.Proofs.YtfoegnddlaemgaaGreatDoor
