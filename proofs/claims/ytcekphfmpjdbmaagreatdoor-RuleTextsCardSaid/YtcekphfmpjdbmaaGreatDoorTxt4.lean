/- Package rule: likely, the type of a text if there is one. -/
import Derived.Test.YtcekphfmpjdbmaaGreatDoorTxt3
namespace Go.Proofs.YtcekphfmpjdbmaaGreatDoor
open Go.RowKit

/-- The words of the kinds, and who reads what stands behind them. -/
def wd : Nat → List UInt8
  | 1 => wBin | 2 => wDec | 3 => wFlo | 4 => wCha | 5 => wBit | 6 => wPic | 7 => wPtr | 8 => wLab | 9 => wEnt | _ => []
def frd : Nat → Nat
  | 1 => 197 | 2 => 197 | 3 => 199 | 4 => 201 | 5 => 201 | 6 => 203 | _ => 205
def fwr : Nat → Nat
  | 1 => 196 | 2 => 196 | 3 => 198 | 4 => 200 | 5 => 200 | 6 => 202 | _ => 204
/-- What is read behind the word of a kind. -/
def readK (k : Nat) (r : List UInt8) : Ty :=
  if k = 1 ∨ k = 2 then ⟨k, numL (Lib.cut (insideL r) [44]).1, numL (Lib.cut (insideL r) [44]).2.1, 0, false, ⟨#[]⟩⟩
  else if k = 3 then ⟨k, numL (insideL r), 0, 0, false, ⟨#[]⟩⟩
  else if k = 4 ∨ k = 5 then ⟨k, 0, 0, (lenL r).1, (lenL r).2, ⟨#[]⟩⟩
  else if k = 6 then ⟨k, 0, 0, 0, false, bs (picL r)⟩
  else ⟨k, 0, 0, 0, false, ⟨#[]⟩⟩

theorem spEl_eq (k : Nat) (h1 : 1 ≤ k) (h9 : k ≤ 9) : spEl k = #[.string (bs (wd k)), fnS (fwr k), fnS (frd k)] := by
  obtain rfl | rfl | rfl | rfl | rfl | rfl | rfl | rfl | rfl : k = 1 ∨ k = 2 ∨ k = 3 ∨ k = 4 ∨ k = 5 ∨ k = 6 ∨ k = 7 ∨ k = 8 ∨ k = 9 := by omega
  all_goals rfl
theorem cf_read (k : Nat) (h1 : 1 ≤ k) (h9 : k ≤ 9) (args : Array Value) (W : World) : (callFunc (frd k) args).run Tryz.prog W = .ok (.enter (frd k) args) W := by
  obtain rfl | rfl | rfl | rfl | rfl | rfl | rfl | rfl | rfl : k = 1 ∨ k = 2 ∨ k = 3 ∨ k = 4 ∨ k = 5 ∨ k = 6 ∨ k = 7 ∨ k = 8 ∨ k = 9 := by omega
  all_goals kernel_rfl
abbrev zTy' : Ty := ⟨0, 0, 0, 0, false, ⟨#[]⟩⟩
theorem fn_nil (n : Nat) (W : World) : (binOp .eql 106 (fnS n) .nilFunc).run Tryz.prog W = .ok (.bool false) W := by kernel_rfl
theorem nil_nil (W : World) : (binOp .eql 106 .nilFunc .nilFunc).run Tryz.prog W = .ok (.bool true) W := by kernel_rfl

theorem read_k (k : Nat) (h1 : 1 ≤ k) (h9 : k ≤ 9) (s : ByteArray) (W : World) (hs : s.size ≤ 100000) (hE : EnvT W) :
    Calls Tryz.prog (frd k) #[.string s] W fun e w' => e = .returned (tyV 0 (readK k s.data.toList).p (readK k s.data.toList).q (readK k s.data.toList).n (readK k s.data.toList).vy (readK k s.data.toList).pic) ∧ Below W.heap.size W w' := by
  obtain rfl | rfl | rfl | rfl | rfl | rfl | rfl | rfl | rfl : k = 1 ∨ k = 2 ∨ k = 3 ∨ k = 4 ∨ k = 5 ∨ k = 6 ∨ k = 7 ∨ k = 8 ∨ k = 9 := by omega
  · exact readFixed_any s W hs hE
  · exact readFixed_any s W hs hE
  · exact readFloat_any s W hs hE
  · exact readLength_any s W hs hE
  · exact readLength_any s W hs hE
  · exact readPicture_any s W hs hE
  · exact readNothing_any s W
  · exact readNothing_any s W
  · exact readNothing_any s W

theorem BoxAt.set6g {w : World} {b : Nat} {t : Ty} (h : BoxAt w b t) (k p q n : Int) (vy : Bool) (pic : ByteArray) :
    BoxAt ((((((w.setCell ⟨b, 0, none⟩ (.int .i64 k)).setCell ⟨b, 1, none⟩ (.int .i64 p)).setCell ⟨b, 2, none⟩ (.int .i64 q)).setCell ⟨b, 3, none⟩ (.int .i64 n)).setCell ⟨b, 4, none⟩ (.bool vy)).setCell ⟨b, 5, none⟩ (.string pic)) b ⟨k, p, q, n, vy, pic⟩ := by
  have h' : w.heap[b]? = _ := h
  unfold BoxAt World.setCell
  simp [Array.getElem?_modify, h']
theorem readK_k (k : Nat) (r : List UInt8) : (readK k r).k = k := by
  unfold readK; split
  · rfl
  · split
    · rfl
    · split
      · rfl
      · split <;> rfl

set_option maxRecDepth 100000 in
set_option maxHeartbeats 4000000 in
theorem likely_some (k : Nat) (h1 : 1 ≤ k) (h9 : k ≤ 9) (s : ByteArray) (w : World) (hs : s.size ≤ 100000) (hE : EnvT w) (hp : Lib.hasPrefix s.data.toList (wd k) = true) (hn : ∀ j, 1 ≤ j → j < k → Lib.hasPrefix s.data.toList (wd j) = false) :
    Calls Tryz.prog 157 #[.string s] w fun e w' => e = .returned (readK k (Lib.trimPrefix s.data.toList (wd k))).v ∧ Below w.heap.size w w' := by
  have HE := Lib.hid hE; have HP := Lib.hid hp; have HN := Lib.hid hn
  have hf1 := fn_nil; have hf2 := nil_nil
  have ht := trimPrefix_len s.data.toList (wd k)
  rw [size_list] at ht
  have hl : (bs (Lib.trimPrefix s.data.toList (wd k))).size ≤ 100000 := by rw [size_bs]; omega
  have HL := Lib.hid hl
  clear hE hp hn ht hl
  go_enter Tryz.func157, Tryz.ntmps157
  go_wp2_with fail
  go_at_call 156
  refine (spellings_any _).mono ?_
  rintro e w1 ⟨rfl, hb⟩
  have hR := Lib.hid (BoxAt.fresh (t := zTy') hb)
  have hW := Lib.hid (below_then (by go_grown) hb (by simp) : Below w.heap.size w w1)
  clear hb
  go_wp2_with fail
  go_loopw [9] (fun v wr => ∃ i : Nat, i ≤ k ∧ v = .int .i64 i ∧ BoxAt wr w.heap.size zTy' ∧ Below w.heap.size w wr) (fun v _ => 10 - (intOf v).toNat)
  case atStart => exact ⟨0, by omega, rfl, hR.out, hW.out⟩
  case round =>
    obtain ⟨i, hik, rfl, hX, hB⟩ := hrel
    have HE2 := Lib.hid (HE.out.below hB)
    have HX := Lib.hid hX; have HB := Lib.hid hB
    have lx := hX.lt
    clear hX hB
    have i10 : (i : Int) < 10 := by omega
    by_cases h0 : i = 0
    · subst h0
      have ix : ∀ W, (Instr.index 159 (.agg spRow) (.int .i64 0)).run Tryz.prog W = .ok (.agg #[.string ⟨#[]⟩, .nilFunc, .nilFunc]) W := fun W => sp_ix 0 (by omega) W
      have hp0 : Lib.hasPrefix s.data.toList (ByteArray.mk #[]).data.toList = true := by unfold Lib.hasPrefix; simp
      have HP0 := Lib.hid hp0; clear hp0
      go_wp2_with fail
      go_at_call 206
      refine (Tryz.strings_CutPrefix s _ _).mono ?_
      rintro e w2 ⟨rfl, rfl⟩
      rw [HP0.out]
      go_wp2
      go_roundw
      case rel => exact ⟨1, by omega, rfl, HX.out.alloc, HB.out.alloc HB.out.size _⟩
      case measure => simp [intOf]
    · have ix : ∀ W, (Instr.index 159 (.agg spRow) (.int .i64 i)).run Tryz.prog W = .ok (.agg #[.string (bs (wd i)), fnS (fwr i), fnS (frd i)]) W := fun W => by rw [sp_ix i (by omega) W, spEl_eq i (by omega) (by omega)]
      by_cases hlt : i < k
      · have hp0 := HN.out i (by omega) hlt
        have HP0 := Lib.hid hp0; clear hp0
        go_wp2_with fail
        go_at_call 206
        refine (Tryz.strings_CutPrefix s _ _).mono ?_
        rintro e w2 ⟨rfl, rfl⟩
        rw [show Lib.hasPrefix s.data.toList (bs (wd i)).data.toList = false from HP0.out]
        go_wp2
        go_roundw
        case rel => exact ⟨i + 1, by omega, by go_num, HX.out.alloc, HB.out.alloc HB.out.size _⟩
        case measure => simp [intOf]; omega
      · obtain rfl : i = k := by omega
        have hcf : ∀ (args : Array Value) (W : World), (callFunc (frd i) args).run Tryz.prog W = .ok (.enter (frd i) args) W := cf_read i h1 h9
        go_wp2_with fail
        go_at_call 206
        refine (Tryz.strings_CutPrefix s _ _).mono ?_
        rintro e w2 ⟨rfl, rfl⟩
        rw [show Lib.hasPrefix s.data.toList (bs (wd i)).data.toList = true from HP.out, show Lib.trimPrefix s.data.toList (bs (wd i)).data.toList = Lib.trimPrefix s.data.toList (wd i) from rfl]
        go_wp2_with fail
        refine (read_k i h1 h9 (bs (Lib.trimPrefix s.data.toList (wd i))) _ HL.out (HE2.out.below (by go_grown))).mono ?_
        rintro e w2 ⟨rfl, hb⟩
        have hX2 := HX.out.past hb
        have hW2 : Below w.heap.size w w2 := below_then (HB.out.alloc HB.out.size _) hb (by simp; omega)
        have hl2 := hX2.lt
        obtain ⟨z0, z1, z2, z3, z4, z5⟩ := hX2.cells
        have zf := hX2.free
        have hk : (readK i (Lib.trimPrefix s.data.toList (wd i))).k = i := readK_k i _
        rw [show readK i (bs (Lib.trimPrefix s.data.toList (wd i))).data.toList = readK i (Lib.trimPrefix s.data.toList (wd i)) from rfl]
        have hT : readK i (Lib.trimPrefix s.data.toList (wd i)) = ⟨i, (readK i (Lib.trimPrefix s.data.toList (wd i))).p, (readK i (Lib.trimPrefix s.data.toList (wd i))).q, (readK i (Lib.trimPrefix s.data.toList (wd i))).n, (readK i (Lib.trimPrefix s.data.toList (wd i))).vy, (readK i (Lib.trimPrefix s.data.toList (wd i))).pic⟩ := by
          conv => rhs; rw [← hk]
        have HT := Lib.hid hT
        clear hT hk
        generalize (readK i (Lib.trimPrefix s.data.toList (wd i))).p = tp at HT ⊢
        generalize (readK i (Lib.trimPrefix s.data.toList (wd i))).q = tq at HT ⊢
        generalize (readK i (Lib.trimPrefix s.data.toList (wd i))).n = tn at HT ⊢
        generalize (readK i (Lib.trimPrefix s.data.toList (wd i))).vy = tv at HT ⊢
        generalize (readK i (Lib.trimPrefix s.data.toList (wd i))).pic = tpic at HT ⊢
        have HW2 := Lib.hid hW2; have HX2 := Lib.hid hX2
        clear hW2 hX2 hb
        have n1 : ¬ w.heap.size = w2.heap.size := by omega
        have n2 : ¬ w2.heap.size = w.heap.size := by omega
        have n3 : w.heap.size < w2.heap.size + 1 := by omega
        go_upto_region 8 with fail
        iterate 30 (first | go_values | go_skip | go_guarded | go_step | go_upon | go_simp | skip)
        have hbx := (HX2.out.set6g i tp tq tn tv tpic).alloc (o := tyObj ⟨i, tp, tq, tn, tv, tpic⟩)
        refine bodyPost_ret (v := tyV i tp tq tn tv tpic) (results_cell_row (p := 2) (ty := 23) rfl _ _ w.heap.size 23 #[.int .i64 i, .int .i64 tp, .int .i64 tq, .int .i64 tn, .bool tv, .string tpic] (0, 0) _ rfl hbx Tryz.underlying23 rfl size_ty) rfl ⟨by rw [HT.out], ?_⟩
        exact ((((((HW2.out.setCell (Nat.le_refl _) _).setCell (Nat.le_refl _) _).setCell (Nat.le_refl _) _).setCell (Nat.le_refl _) _).setCell (Nat.le_refl _) _).setCell (Nat.le_refl _) _).alloc (by simp; omega) _
end Go.Proofs.YtcekphfmpjdbmaaGreatDoor
