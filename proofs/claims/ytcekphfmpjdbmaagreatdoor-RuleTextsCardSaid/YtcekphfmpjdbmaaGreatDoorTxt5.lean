/- Package rule: likely, where no word begins the text. -/
import Derived.Test.YtcekphfmpjdbmaaGreatDoorTxt4
namespace Go.Proofs.YtcekphfmpjdbmaaGreatDoor
open Go.RowKit

set_option maxRecDepth 100000 in
set_option maxHeartbeats 4000000 in
theorem likely_none (s : ByteArray) (w : World) (hn : ∀ j, 1 ≤ j → j ≤ 9 → Lib.hasPrefix s.data.toList (wd j) = false) :
    Calls Tryz.prog 157 #[.string s] w fun e w' => e = .returned (zTy'.v) ∧ Below w.heap.size w w' := by
  have HN := Lib.hid hn
  have hf1 := fn_nil; have hf2 := nil_nil
  clear hn
  go_enter Tryz.func157, Tryz.ntmps157
  go_wp2_with fail
  go_at_call 156
  refine (spellings_any _).mono ?_
  rintro e w1 ⟨rfl, hb⟩
  have hR := Lib.hid (BoxAt.fresh (t := zTy') hb)
  have hW := Lib.hid (below_then (by go_grown) hb (by simp) : Below w.heap.size w w1)
  clear hb
  go_wp2_with fail
  go_loopw [9] (fun v wr => ∃ i : Nat, i ≤ 10 ∧ v = .int .i64 i ∧ BoxAt wr w.heap.size zTy' ∧ Below w.heap.size w wr) (fun v _ => 10 - (intOf v).toNat)
  case atStart => exact ⟨0, by omega, rfl, hR.out, hW.out⟩
  case round =>
    obtain ⟨i, hik, rfl, hX, hB⟩ := hrel
    trace "1"
    by_cases hten : i = 10
    · subst hten
      have lx := hX.lt
      obtain ⟨z0, z1, z2, z3, z4, z5⟩ := hX.cells
      have zf := hX.free
      have HB := Lib.hid hB
      clear hX hB
      trace "2"
      go_wp2
      trace "3"
      refine bodyPost_ret (v := tyV 0 0 0 0 false ⟨#[]⟩) (by simp [results, Tryz.results157, go_sem, *]) rfl ⟨rfl, ?_⟩
      (repeat refine Below.setCell ?_ (by simp <;> omega) _)
      exact HB.out
    have HX := Lib.hid hX; have HB := Lib.hid hB
    have lx := hX.lt
    clear hX hB
    have i10 : (i : Int) < 10 := by omega
    by_cases h0 : i = 0
    · subst h0
      have ix : ∀ W, (Instr.index 159 (.agg spRow) (.int .i64 0)).run Tryz.prog W = .ok (.agg #[.string ⟨#[]⟩, .nilFunc, .nilFunc]) W := fun W => sp_ix 0 (by omega) W
      have hp0 : Lib.hasPrefix s.data.toList (ByteArray.mk #[]).data.toList = true := by unfold Lib.hasPrefix; simp
      have HP0 := Lib.hid hp0; clear hp0
      go_wp2_with fail
      go_at_call 206
      refine (Tryz.strings_CutPrefix s _ _).mono ?_
      rintro e w2 ⟨rfl, rfl⟩
      rw [HP0.out]
      go_wp2
      go_roundw
      case rel => exact ⟨1, by omega, rfl, HX.out.alloc, HB.out.alloc HB.out.size _⟩
      case measure => simp [intOf]
    · have ix : ∀ W, (Instr.index 159 (.agg spRow) (.int .i64 i)).run Tryz.prog W = .ok (.agg #[.string (bs (wd i)), fnS (fwr i), fnS (frd i)]) W := fun W => by rw [sp_ix i (by omega) W, spEl_eq i (by omega) (by omega)]
      have hp0 := HN.out i (by omega) (by omega)
      have HP0 := Lib.hid hp0; clear hp0
      go_wp2_with fail
      go_at_call 206
      refine (Tryz.strings_CutPrefix s _ _).mono ?_
      rintro e w2 ⟨rfl, rfl⟩
      rw [show Lib.hasPrefix s.data.toList (bs (wd i)).data.toList = false from HP0.out]
      go_wp2
      go_roundw
      case rel => exact ⟨i + 1, by omega, by go_num, HX.out.alloc, HB.out.alloc HB.out.size _⟩
      case measure => simp [intOf]; omega
end Go.Proofs.YtcekphfmpjdbmaaGreatDoor
