/- RuleCommon: plain facts of the common type of numbers, folded; based's closure and the specification's sum at it. -/
import Derived.Test.YtcekphfmpjdbmaaGreatDoorResFacts
import Derived.Test.YtcekphfmpjdbmaaGreatDoorSum
import Derived.Test.YtcekphfmpjdbmaaGreatDoorSum3
namespace Go.Proofs.YtcekphfmpjdbmaaGreatDoor
open Go.RowKit

def cmP (B ka pa qa kb pb qb : Int) : Int := if B = 3 then max (flP ka pa) (flP kb pb) else sumP (mOf B) 0 (cP B ka pa) (cQ B ka qa) (cP B kb pb) (cQ B kb qb)
def cmQ (B ka qa kb qb : Int) : Int := if B = 3 then 0 else sumQ (cQ B ka qa) (cQ B kb qb)

theorem based_c (ka pa qa kb pb qb : Int) (bf : Nat) (w : World) (hA : NumB ka pa qa) (hB : NumB kb pb qb)
    (hbf : w.cell? ⟨bf, 0, none⟩ = some (.func (.func 85) #[] #[])) (hlt : bf < w.heap.size) :
    Calls Tryz.prog 146 #[numV ka pa qa, numV kb pb qb, .pointer (some ⟨bf, 0, none⟩)] w fun e w' =>
      e = .returned (numV (base ka kb) (cmP (base ka kb) ka pa qa kb pb qb) (cmQ (base ka kb) ka qa kb qb)) ∧ Below w.heap.size w w' := by
  have a1 := cP_bd (base ka kb) ka pa hA.p1 hA.p2
  have a2 := cP_bd (base ka kb) kb pb hB.p1 hB.p2
  have a3 := cQ_bd (base ka kb) ka qa hA.q0 hA.q1
  have a4 := cQ_bd (base ka kb) kb qb hB.q0 hB.q1
  have hcf : ∀ (args : Array Value) (W : World), (callFunc 85 args).run Tryz.prog W = .ok (.enter 85 args) W := fun _ _ => by kernel_rfl
  rcases base_123 ka kb with h | h | h
  · rw [h] at a1 a2 a3 a4 ⊢
    exact based_1 85 _ _ ka pa qa kb pb qb h bf w hA.k1 hA.k3 hB.k1 hB.k3 hA.p1 hA.p2 hB.p1 hB.p2 hA.q0 hA.q1 hB.q0 hB.q1 hcf hbf hlt (fun W => pcommon_any 1 _ _ _ _ 31 W a1.1 a1.2 a2.1 a2.2 a3.1 a3.2 a4.1 a4.2 (by omega) (by omega))
  · rw [h] at a1 a2 a3 a4 ⊢
    exact based_2 85 _ _ ka pa qa kb pb qb h bf w hA.k1 hA.k3 hB.k1 hB.k3 hA.p1 hA.p2 hB.p1 hB.p2 hA.q0 hA.q1 hB.q0 hB.q1 hcf hbf hlt (fun W => pcommon_any 2 _ _ _ _ 15 W a1.1 a1.2 a2.1 a2.2 a3.1 a3.2 a4.1 a4.2 (by omega) (by omega))
  · rw [h]
    exact based_3 ka pa qa kb pb qb h bf w hA.k1 hA.k3 hB.k1 hB.k3 hA.p1 hA.p2 hB.p1 hB.p2 hA.q0 hA.q1 hB.q0 hB.q1

theorem rcommon (ka pa qa kb pb qb : Int) (w : World) (hA : NumB ka pa qa) (hB : NumB kb pb qb) :
    Calls Tryz.prog 76 #[numV ka pa qa, numV kb pb qb, .int .i64 0] w fun e w' =>
      e = .returned (numV (base ka kb) (cmP (base ka kb) ka pa qa kb pb qb) (cmQ (base ka kb) ka qa kb qb)) ∧ Below w.heap.size w w' := by
  rcases base_123 ka kb with h | h | h
  · rw [h]; exact rsum_1 0 ka pa qa kb pb qb h w (by omega) (by omega) hA.k1 hA.k3 hB.k1 hB.k3 hA.p1 hA.p2 hB.p1 hB.p2 hA.q0 hA.q1 hB.q0 hB.q1
  · rw [h]; exact rsum_2 0 ka pa qa kb pb qb h w (by omega) (by omega) hA.k1 hA.k3 hB.k1 hB.k3 hA.p1 hA.p2 hB.p1 hB.p2 hA.q0 hA.q1 hB.q0 hB.q1
  · rw [h]; exact rsum_3 0 ka pa qa kb pb qb h w hA.k1 hA.k3 hB.k1 hB.k3 hA.p1 hA.p2 hB.p1 hB.p2 hA.q0 hA.q1 hB.q0 hB.q1

theorem base_bd {ka kb : Int} : 1 ≤ base ka kb ∧ base ka kb ≤ 3 := by
  rcases base_123 ka kb with h | h | h <;> rw [h] <;> omega

theorem cm_num {ka pa qa kb pb qb : Int} (hA : NumB ka pa qa) (hB : NumB kb pb qb) :
    NumB (base ka kb) (cmP (base ka kb) ka pa qa kb pb qb) (cmQ (base ka kb) ka qa kb qb) := by
  have a1 := cP_bd (base ka kb) ka pa hA.p1 hA.p2
  have a2 := cP_bd (base ka kb) kb pb hB.p1 hB.p2
  have a3 := cQ_bd (base ka kb) ka qa hA.q0 hA.q1
  have a4 := cQ_bd (base ka kb) kb qb hB.q0 hB.q1
  have f1 := hA.fl
  have f2 := hB.fl
  have hb := @base_bd ka kb
  rcases base_123 ka kb with h | h | h
  · rw [h] at a1 a2 a3 a4 ⊢
    have e1 : 1 ≤ cmP 1 ka pa qa kb pb qb ∧ cmP 1 ka pa qa kb pb qb ≤ 31 := by unfold cmP mOf sumP; simp; omega
    have e2 : 0 ≤ cmQ 1 ka qa kb qb ∧ cmQ 1 ka qa kb qb ≤ 31 := by unfold cmQ sumQ; simp; omega
    exact ⟨by omega, by omega, e1.1, e1.2, e2.1, e2.2, ok_1 e1.1 e1.2 e2.1 e2.2⟩
  · rw [h] at a1 a2 a3 a4 ⊢
    have e1 : 1 ≤ cmP 2 ka pa qa kb pb qb ∧ cmP 2 ka pa qa kb pb qb ≤ 15 := by unfold cmP mOf sumP; simp; omega
    have e2 : 0 ≤ cmQ 2 ka qa kb qb ∧ cmQ 2 ka qa kb qb ≤ 31 := by unfold cmQ sumQ; simp; omega
    exact ⟨by omega, by omega, e1.1, by omega, e2.1, e2.2, ok_2 e1.1 e1.2 e2.1 e2.2⟩
  · rw [h]
    have e : cmQ 3 ka qa kb qb = 0 := by simp [cmQ]
    have e' : cmP 3 ka pa qa kb pb qb = max (flP ka pa) (flP kb pb) := by simp [cmP]
    rw [e, e']
    exact ⟨by omega, by omega, by omega, by omega, by omega, by omega, ok_3 (by omega) (by omega)⟩

/-- The common type of two types. -/
def cmT (a b : Ty) : Ty := nTy (base a.k b.k) (cmP (base a.k b.k) a.k a.p a.q b.k b.p b.q) (cmQ (base a.k b.k) a.k a.q b.k b.q)
def NumT (t : Ty) : Prop := ∃ k p q, t = nTy k p q ∧ NumB k p q

theorem numT_of {t : Ty} (ho : t.ok = true) (hn : t.num = true) : NumT t := by
  obtain ⟨k, p, q, n, vy, pic⟩ := t
  have hk : 1 ≤ k ∧ k ≤ 3 := by simp [Ty.num, isNumS] at hn; omega
  obtain rfl | rfl | rfl : k = 1 ∨ k = 2 ∨ k = 3 := by omega
  · obtain ⟨h1, h2, h3, h4, rfl, rfl, rfl⟩ := ok_1_of ho
    exact ⟨1, p, q, rfl, by omega, by omega, h1, by omega, h3, h4, ho⟩
  · obtain ⟨h1, h2, h3, h4, rfl, rfl, rfl⟩ := ok_2_of ho
    exact ⟨2, p, q, rfl, by omega, by omega, h1, by omega, h3, h4, ho⟩
  · obtain ⟨h1, h2, rfl, rfl, rfl, rfl⟩ := ok_3_of ho
    exact ⟨3, p, 0, rfl, by omega, by omega, h1, by omega, by omega, by omega, ho⟩
theorem NumT.cm {a b : Ty} (ha : NumT a) (hb : NumT b) : NumT (cmT a b) := by
  obtain ⟨k, p, q, rfl, h⟩ := ha
  obtain ⟨k', p', q', rfl, h'⟩ := hb
  exact ⟨_, _, _, rfl, cm_num h h'⟩
theorem NumT.ok {t : Ty} (h : NumT t) : t.ok = true := by
  obtain ⟨k, p, q, rfl, h⟩ := h
  exact h.ok
theorem NumT.num {t : Ty} (h : NumT t) : t.num = true := by
  obtain ⟨k, p, q, rfl, h⟩ := h
  exact h.num

def foldT (a : Ty) (l : List Ty) : Ty := l.foldl cmT a
theorem foldT_nil (a : Ty) : foldT a [] = a := rfl
theorem foldT_succ (a : Ty) (l : List Ty) (k : Nat) (h : k < l.length) : foldT a (l.take (k + 1)) = cmT (foldT a (l.take k)) l[k] := by
  unfold foldT
  rw [List.take_succ_eq_append_getElem h, List.foldl_append]
  rfl
theorem foldT_num {a : Ty} {l : List Ty} (ha : NumT a) (hl : ∀ t ∈ l, NumT t) : NumT (foldT a l) := by
  induction l generalizing a with
  | nil => exact ha
  | cons b r ih => exact ih (ha.cm (hl b (by simp))) (fun t ht => hl t (by simp [ht]))
theorem foldT_take_num {a : Ty} {l : List Ty} (k : Nat) (ha : NumT a) (hl : ∀ t ∈ l, NumT t) : NumT (foldT a (l.take k)) :=
  foldT_num ha fun t ht => hl t (List.mem_of_mem_take ht)

theorem cmT_turn (a b : Ty) : cmT a b = cmT b a := by
  have e : base b.k a.k = base a.k b.k := base_comm _ _
  unfold cmT
  rw [e]
  generalize base a.k b.k = B
  unfold cmP cmQ sumP sumQ
  rw [max_turn (flP b.k b.p), max_turn (cP B b.k b.p - cQ B b.k b.q), max_turn (cQ B b.k b.q)]

end Go.Proofs.YtcekphfmpjdbmaaGreatDoor
