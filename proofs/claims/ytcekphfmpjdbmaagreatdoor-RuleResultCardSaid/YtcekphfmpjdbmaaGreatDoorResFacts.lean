/- Plain facts of results: a result's type is valid; + and * may be turned round. -/
import Derived.Test.YtcekphfmpjdbmaaGreatDoorAwake2
namespace Go.Proofs.YtcekphfmpjdbmaaGreatDoor

theorem NumB.p15 {k p q : Int} (h : NumB k p q) (hk : k ≠ 1) : p ≤ 15 := by
  have h1 := h.k1
  have h3 := h.k3
  have ho := h.ok
  obtain rfl | rfl : k = 2 ∨ k = 3 := by omega
  · exact (ok_2_of ho).2.1
  · exact (ok_3_of ho).2.1
theorem NumB.fl {k p q : Int} (h : NumB k p q) : 1 ≤ flP k p ∧ flP k p ≤ 15 := by
  unfold flP
  split
  · have := fP_bd p h.p1; omega
  · have := h.p15 (by assumption); have := h.p1; omega

theorem base_comm (ka kb : Int) : base ka kb = base kb ka := by
  unfold base; simp only [Or.comm]

theorem rok (o : Int) {ka pa qa kb pb qb : Int} (ho : 0 ≤ o) (hA : NumB ka pa qa) (hB : NumB kb pb qb) :
    (Ty.mk (base ka kb) (rP o (base ka kb) ka pa qa kb pb qb) (rQ o (base ka kb) ka pa qa kb qb) 0 false ⟨#[]⟩).ok = true := by
  have a1 := cP_bd (base ka kb) ka pa hA.p1 hA.p2
  have a2 := cP_bd (base ka kb) kb pb hB.p1 hB.p2
  have a3 := cQ_bd (base ka kb) ka qa hA.q0 hA.q1
  have a4 := cQ_bd (base ka kb) kb qb hB.q0 hB.q1
  have f1 := hA.fl
  have f2 := hB.fl
  rcases base_123 ka kb with h | h | h
  · rw [h] at a1 a2 a3 a4 ⊢
    refine ok_1 ?_ ?_ ?_ ?_
    · unfold rP oP mOf sumP prodP; simp; split <;> (try split) <;> omega
    · unfold rP oP mOf sumP prodP; simp; split <;> (try split) <;> omega
    · unfold rQ oQ mOf sumQ prodQ quoQ; simp; split <;> (try split) <;> omega
    · unfold rQ oQ mOf sumQ prodQ quoQ; simp; split <;> (try split) <;> omega
  · rw [h] at a1 a2 a3 a4 ⊢
    refine ok_2 ?_ ?_ ?_ ?_
    · unfold rP oP mOf sumP prodP; simp; split <;> (try split) <;> omega
    · unfold rP oP mOf sumP prodP; simp; split <;> (try split) <;> omega
    · unfold rQ oQ mOf sumQ prodQ quoQ; simp; split <;> (try split) <;> omega
    · unfold rQ oQ mOf sumQ prodQ quoQ; simp; split <;> (try split) <;> omega
  · rw [h]
    have e : rQ o 3 ka pa qa kb qb = 0 := by simp [rQ]
    have e' : rP o 3 ka pa qa kb pb qb = max (flP ka pa) (flP kb pb) := by simp [rP]
    rw [e, e']
    exact ok_3 (by omega) (by omega)

theorem max_turn (a b : Int) : max a b = max b a := by omega
theorem rP_turn (o B ka pa qa kb pb qb : Int) (ho : o = 0 ∨ o = 2) : rP o B ka pa qa kb pb qb = rP o B kb pb qb ka pa qa := by
  unfold rP oP sumP prodP
  have h1 : (0 : Int) ≤ 1 := by omega
  have h2 : ¬ (2 : Int) ≤ 1 := by omega
  rcases ho with rfl | rfl
  · simp only [if_pos h1, max_turn (flP ka pa), max_turn (cP B ka pa - cQ B ka qa), max_turn (cQ B ka qa)]
  · simp only [if_neg h2, if_true, max_turn (flP ka pa), Int.add_comm (cP B ka pa)]
theorem rQ_turn (o B ka pa qa kb pb qb : Int) (ho : o = 0 ∨ o = 2) : rQ o B ka pa qa kb qb = rQ o B kb pb qb ka qa := by
  unfold rQ oQ sumQ prodQ
  have h1 : (0 : Int) ≤ 1 := by omega
  have h2 : ¬ (2 : Int) ≤ 1 := by omega
  rcases ho with rfl | rfl
  · simp only [if_pos h1, max_turn (cQ B ka qa)]
  · simp only [if_neg h2, if_true, Int.add_comm (cQ B ka qa)]
end Go.Proofs.YtcekphfmpjdbmaaGreatDoor
