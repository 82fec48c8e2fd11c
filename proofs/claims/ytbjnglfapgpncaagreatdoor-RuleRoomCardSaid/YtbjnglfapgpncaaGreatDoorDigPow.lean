/- ironbarkref01.Pow of 2: the digits of a power of two. ironbarkref01.Pow of 10: the digits of a power of ten. -/
import Derived.Test.YtbjnglfapgpncaaGreatDoorDigPlus
import Derived.Test.YtbjnglfapgpncaaGreatDoorDigInt
import Derived.Deep.OwnRows
import Derived.Laws.OwnMore
namespace Go.Proofs.YtbjnglfapgpncaaGreatDoor
open Go.RowKit

theorem own_base {B B' : Nat} {w : World} {v : Value} {n : Nat} {xs : List Value} (h : w.ownsRow B' 3 1 v n xs) (hB : B ≤ B') : w.ownsRow B 3 1 v n xs := by
  refine ⟨h.1, ?_⟩
  rcases h.2 with hn | ⟨g, cap, cur, e, hb, rest⟩
  · exact .inl hn
  · exact .inr ⟨g, cap, cur, e, by omega, rest⟩

theorem digs_one : digs 1 = [1] := by rw [digs_pos 1 (by decide)]; rw [show 1 / 10 = 0 by decide, digs_zero]

theorem pow2_length (k : Nat) (hk : k ≤ 200) : (digs (2 ^ k)).length ≤ 1000 :=
  digs_length _ _ (Nat.lt_of_lt_of_le (Nat.pow_lt_pow_left (by decide : 2 < 10) (by decide : (1000 : Nat) ≠ 0) |> fun h => Nat.lt_of_le_of_lt (Nat.pow_le_pow_right (by decide) (by omega)) h) (Nat.le_refl _))

set_option maxHeartbeats 1600000 in
set_option maxRecDepth 100000 in
theorem pow2_any (n : Nat) (w : World) (hn : n ≤ 100) :
    Calls Tryz.prog 15 #[.int .i64 2, .int .i64 (n : Int)] w fun e w' =>
      ∃ v, e = .returned v ∧ w'.ownsRow w.heap.size 3 1 v (digs (2 ^ n)).length (dcells (digs (2 ^ n))) ∧ Below w.heap.size w w' := by
  go_enter Tryz.func15, Tryz.ntmps15
  go_wp2
  go_loopw [5, 6] (fun v i wr => ∃ k : Nat, i = .int .i64 (k : Int) ∧ k ≤ n ∧ wr.ownsRow w.heap.size 3 1 v (digs (2 ^ k)).length (dcells (digs (2 ^ k))) ∧ Below w.heap.size w wr)
    (fun _ i _ => n - (intOf i).toNat)
  case atStart =>
    refine ⟨0, rfl, Nat.zero_le _, ?_, (Below.refl _ _).alloc (by omega) _⟩
    rw [Nat.pow_zero, digs_one]
    exact ⟨rfl, .inr ⟨w.heap.size, 1, #[.int .i64 1], rfl, Nat.le_refl _, heap_alloc_new w _, by decide, by decide, rfl, rfl⟩⟩
  case round =>
    obtain ⟨k, rfl, hk, hown, hnx⟩ := hrel
    have hsz := hnx.size
    have hlen := pow2_length k (by omega)
    obtain ⟨p, b, cap, rfl, t1, t2, t3, t4⟩ := own_arg hown (Below.refl _ _)
    have pl := plus_any p p b b cap cap _ _ wr (digs_digs (2 ^ k)) (digs_digs (2 ^ k)) t1 t1 t2 t2 t3 t3 (by omega) (by omega) t4 t4
    rw [val_digs, show 2 ^ k + 2 ^ k = 2 ^ (k + 1) by rw [Nat.pow_succ]; omega] at pl
    have PL := Lib.hid pl
    have HO := Lib.hid hown
    clear pl t1 t2 t3 t4 hown
    by_cases hlt : k < n
    · go_wp2_with (go_at_call 28; refine PL.out.mono ?_; rintro e w2 ⟨v2, rfl, hown2, hb2⟩; have HO2 := Lib.hid hown2; clear hown2)
      case roundEnd => exact ⟨⟨k + 1, by simp, by omega, own_base HO2.out hsz, hnx.trans (hb2.mono hsz)⟩, by simp [intOf]; omega⟩
    · have hkn : k = n := by omega
      subst hkn
      go_wp2
      go_ret
      exact ⟨_, rfl, HO.out, hnx⟩
end Go.Proofs.YtbjnglfapgpncaaGreatDoor
namespace Go.Proofs.YtbjnglfapgpncaaGreatDoor
open Go.RowKit

theorem digs_ten (n : Nat) : digs (10 ^ n) = List.replicate n 0 ++ [1] := by
  have hv : val (List.replicate n 0 ++ [1]) = 10 ^ n := by
    rw [val_push, List.length_replicate, val_zeros _ (fun d hd => List.eq_of_mem_replicate hd), Nat.mul_one, Nat.zero_add]
  rw [← hv]
  refine digs_val (Digs.push (fun d hd => by rw [List.eq_of_mem_replicate hd]; decide) (by decide)) ?_
  unfold Neat
  rw [List.getLast?_concat]
  decide

theorem made_zeros (n : Nat) : (madeCells #[Value.int .i64 0] n).toList = dcells (List.replicate n 0) := by
  apply List.ext_getElem?
  intro i
  by_cases h : i < n
  · simp [madeCells, dcells, h, Nat.mod_one]
  · simp [madeCells, dcells, h]

theorem cell_of_new (w : World) (o : Obj) (t : TypeId) :
    ((w.alloc o).alloc (.cells #[Value.int .i64 1] t)).cell? ⟨w.heap.size + 1, 0, none⟩ = some (.int .i64 1) := by
  have h := heap_alloc_new (w.alloc o) (.cells #[Value.int .i64 1] t)
  rw [World.size_alloc] at h
  exact cell_of_row _ _ _ _ _ _ h |>.trans rfl

set_option maxHeartbeats 1600000 in
set_option maxRecDepth 100000 in
theorem pow10_any (n : Nat) (w : World) (hn : n ≤ 100000) :
    Calls Tryz.prog 15 #[.int .i64 10, .int .i64 (n : Int)] w fun e w' =>
      ∃ v, e = .returned v ∧ w'.ownsRow w.heap.size 3 1 v (digs (10 ^ n)).length (dcells (digs (10 ^ n))) ∧ Below w.heap.size w w' := by
  obtain ⟨i0, hi, hz0, hz1, hz2⟩ := info_parts Tryz.infoInt
  have hmk := run_make_row' 33 3 (.int .i64 0) 8 Tryz.underlying33 Tryz.infoInt rfl .i64 .i64 n (by omega) (by omega)
  have hown : (w.alloc (.cells (madeCells #[Value.int .i64 0] n) 3)).ownsRow w.heap.size 3 1 (.slice (some ⟨w.heap.size, 0, none⟩) n n) n (dcells (List.replicate n 0)) := by
    rw [← made_zeros]
    exact World.ownsRow_lit w _ n (Nat.le_refl _) (by unfold maxLen; omega) (by simp [madeCells])
  go_enter Tryz.func15, Tryz.ntmps15
  go_wp2_with (at_builtin; refine wpList_append_own _ rfl _ _ 33 rfl w.heap.size 3 i0 (.int .i64 0) 1 8 Tryz.underlying33 hi hz0 hz1 hz2 rfl (by decide) _ _ _ rfl (hown.alloc _) ⟨w.heap.size + 1, 0, none⟩ 1 1 [.int .i64 1] rfl rfl ?c1 ?c2 ?c3 ?c4 ?c5 ?_)
  case c1 =>
    intro j u hj
    match j, hj with
    | 0, hj =>
      simp at hj; subst hj
      rw [add_head]
      exact cell_of_new w _ _
  case c2 => intro u hu; simp at hu; subst hu; rfl
  case c3 => unfold maxLen; omega
  case c4 => omega
  case c5 => simp; omega
  intro v' w1 hown' hgrow _
  have hb : Below w.heap.size w w1 := (((Below.refl _ w).alloc (Nat.le_refl _) _).alloc (by simp) _).grown hgrow (by simp; omega) (fun j hj => by simp [Value.ownBlock] at hj; omega)
  have el : (digs (10 ^ n)).length = n + 1 := by rw [digs_ten]; simp
  have ho : w1.ownsRow w.heap.size 3 1 v' (digs (10 ^ n)).length (dcells (digs (10 ^ n))) := by
    rw [el, digs_ten]
    simpa [dcells] using hown'
  have HO := Lib.hid ho
  clear hown' hgrow ho hown hmk
  go_wp2
  go_ret
  exact ⟨_, rfl, HO.out, hb⟩
end Go.Proofs.YtbjnglfapgpncaaGreatDoor
