/- Package rule: pictures written; the array of spellings; textOf. -/
import Derived.Test.YtcekphfmpjdbmaaGreatDoorTxt1
import Derived.Lib.ReplaceLaws
import Derived.Test.YtcekphfmpjdbmaaGreatDoorRules
import Derived.Deep.DeepCutAuto
namespace Go.Proofs.YtcekphfmpjdbmaaGreatDoor
open Go.RowKit

theorem count39 (s : ByteArray) : Lib.countB s ⟨#[39]⟩ ≤ s.size + 1 := by
  have := Lib.count_le s.data.toList [39]
  rw [size_list] at this
  exact this

set_option maxHeartbeats 1000000 in
theorem writePicture_any (k p q n : Int) (vy : Bool) (pic : ByteArray) (w : World) (hs : pic.size ≤ 80) (hE : EnvT w) :
    Calls Tryz.prog 202 #[tyV k p q n vy pic] w fun e w' => e = .returned (.string (bs (39 :: (dbl pic.data.toList ++ [39])))) ∧ Below w.heap.size w w' := by
  obtain ⟨m, hm⟩ := (hE.below (by go_grown : Below w.heap.size w (w.alloc (tyObj ⟨k, p, q, n, vy, pic⟩)))).m
  have HM := Lib.hid hm
  have hd := dbl_length pic.data.toList
  rw [size_list] at hd
  have hlen : pic.size + Lib.countB pic ⟨#[39]⟩ * (ByteArray.mk #[39, 39]).size ≤ 140737488355328 := by
    have := count39 pic
    have e : (ByteArray.mk #[39, 39]).size = 2 := rfl
    rw [e]; omega
  have HL := Lib.hid hlen
  have hr : Lib.replaceAll pic.data.toList (ByteArray.mk #[39]).data.toList (ByteArray.mk #[39, 39]).data.toList = dbl pic.data.toList := replace_dbl _
  have HR := Lib.hid hr
  have s1 := fun W => sadd [39] (dbl pic.data.toList) (39 :: dbl pic.data.toList) rfl (by simp) (by omega) W
  have s2 := fun W => sadd (39 :: dbl pic.data.toList) [39] (39 :: (dbl pic.data.toList ++ [39])) rfl (by simp; omega) (by simp) W
  clear hm hlen hr hd hE
  generalize hx : dbl pic.data.toList = x at s1 s2 HR ⊢
  generalize hy : (39 :: x : List UInt8) = y at s1 s2
  generalize hz : (39 :: (x ++ [39]) : List UInt8) = z at s2 ⊢
  have HX := Lib.hid hx; have HY := Lib.hid hy; have HZ := Lib.hid hz
  clear hx hy hz
  go_enter Tryz.func202, Tryz.ntmps202
  go_wp2_with fail
  go_at_call 263
  refine (Tryz.strings_ReplaceAll pic _ _ m _ (by omega) HM.out (by decide) HL.out).mono ?_
  rintro e w2 ⟨rfl, hb⟩
  rw [HR.out]
  go_wp2
  go_ret
  exact ⟨rfl, below_then (by go_grown) hb (by simp)⟩

abbrev fnS (n : Nat) : Value := .func (.func n) #[] #[]
/-- The spelling of a kind, as the program lays it. -/
def spEl : Nat → Array Value
  | 1 => #[.string ⟨#[70, 73, 88, 69, 68, 32, 66, 73, 78]⟩, fnS 196, fnS 197]
  | 2 => #[.string ⟨#[70, 73, 88, 69, 68, 32, 68, 69, 67]⟩, fnS 196, fnS 197]
  | 3 => #[.string ⟨#[70, 76, 79, 65, 84, 32, 68, 69, 67]⟩, fnS 198, fnS 199]
  | 4 => #[.string ⟨#[67, 72, 65, 82]⟩, fnS 200, fnS 201]
  | 5 => #[.string ⟨#[66, 73, 84]⟩, fnS 200, fnS 201]
  | 6 => #[.string ⟨#[80, 73, 67]⟩, fnS 202, fnS 203]
  | 7 => #[.string ⟨#[80, 84, 82]⟩, fnS 204, fnS 205]
  | 8 => #[.string ⟨#[76, 65, 66, 69, 76]⟩, fnS 204, fnS 205]
  | 9 => #[.string ⟨#[69, 78, 84, 82, 89]⟩, fnS 204, fnS 205]
  | _ => #[.string ⟨#[]⟩, .nilFunc, .nilFunc]
def spRow : Array Value := spEl 0 ++ spEl 1 ++ spEl 2 ++ spEl 3 ++ spEl 4 ++ spEl 5 ++ spEl 6 ++ spEl 7 ++ spEl 8 ++ spEl 9
def spZero : Array Value := spEl 0 ++ spEl 0 ++ spEl 0 ++ spEl 0 ++ spEl 0 ++ spEl 0 ++ spEl 0 ++ spEl 0 ++ spEl 0 ++ spEl 0

theorem sp_size : (Tryz.prog.info? 159).map (·.size) = some spRow.size := by kernel_rfl
theorem sp_ones : spRow.all (·.oneCell') = true := by kernel_rfl
theorem sp_alloc (ev : Operand → Value) (d : Option Nat) (ty : TypeId) (pos : String) (after : Array Edge) (g : Option (Nat × Bool)) (W : World) : (execOp ev ⟨d, .alloc 159, ty, pos, after, g⟩).run Tryz.prog W = .ok (.value (.pointer (some ⟨W.heap.size, 0, none⟩))) (W.alloc (.cells spZero 159)) := by kernel_rfl

/-- The array, by an index. -/
theorem sp_ix (k : Nat) (h : k < 10) (W : World) : (Instr.index 159 (.agg spRow) (.int .i64 k)).run Tryz.prog W = .ok (.agg (spEl k)) W := by
  obtain rfl | rfl | rfl | rfl | rfl | rfl | rfl | rfl | rfl | rfl : k = 0 ∨ k = 1 ∨ k = 2 ∨ k = 3 ∨ k = 4 ∨ k = 5 ∨ k = 6 ∨ k = 7 ∨ k = 8 ∨ k = 9 := by omega
  all_goals kernel_rfl

set_option maxHeartbeats 400000 in
theorem spellings_any (w : World) :
    Calls Tryz.prog 156 #[] w fun e w' => e = .returned (.agg spRow) ∧ Below w.heap.size w w' := by
  go_enter Tryz.func156, Tryz.ntmps156
  iterate 3 go_step
  refine Great.wpList_allocTo rfl (some 0) rfl (.pointer (some ⟨w.heap.size, 0, none⟩)) (.cells spZero 159) (sp_alloc _ _ _ _ _ _ _) ?_
  iterate 5 go_step
  refine wpList_buildTo rfl _ _ rfl (some 1) rfl (spEl 1) (by kernel_rfl) ?_
  refine wpList_buildTo rfl _ _ rfl (some 2) rfl (spEl 2) (by kernel_rfl) ?_
  refine wpList_buildTo rfl _ _ rfl (some 3) rfl (spEl 3) (by kernel_rfl) ?_
  refine wpList_buildTo rfl _ _ rfl (some 4) rfl (spEl 4) (by kernel_rfl) ?_
  refine wpList_buildTo rfl _ _ rfl (some 5) rfl (spEl 5) (by kernel_rfl) ?_
  refine wpList_buildTo rfl _ _ rfl (some 6) rfl (spEl 6) (by kernel_rfl) ?_
  refine wpList_buildTo rfl _ _ rfl (some 7) rfl (spEl 7) (by kernel_rfl) ?_
  refine wpList_buildTo rfl _ _ rfl (some 8) rfl (spEl 8) (by kernel_rfl) ?_
  refine wpList_buildTo rfl _ _ rfl (some 9) rfl (spEl 9) (by kernel_rfl) ?_
  refine wpList_buildTo rfl _ _ rfl (some 10) rfl spRow (by kernel_rfl) ?_
  refine wpList_store_rowTo rfl _ _ _ rfl rfl w.heap.size spRow (by kernel_rfl) (by kernel_rfl) 159 spZero (heap_alloc_last _ _) sp_size (by kernel_rfl) sp_ones ?_
  rw [setRow_last]
  refine wpList_frame (a' := ⟨#[.pointer (some ⟨w.heap.size, 0, none⟩), .agg (spEl 1), .agg (spEl 2), .agg (spEl 3), .agg (spEl 4), .agg (spEl 5), .agg (spEl 6), .agg (spEl 7), .agg (spEl 8), .agg (spEl 9), .agg spRow], []⟩) (by kernel_rfl) ?_
  go_wp2
  exact bodyPost_ret (v := .agg spRow) (results_cell_row (p := 0) (ty := 159) rfl _ _ w.heap.size 159 spRow (0, 0) _ rfl (heap_alloc_last _ _) Tryz.underlying159 rfl sp_size) rfl ⟨rfl, (Below.refl _ _).alloc (Nat.le_refl _) _⟩

theorem BoxAt.setC {w : World} {b : Nat} {t : Ty} {a : Addr} {v : Value} (h : BoxAt w b t) (hne : a.block ≠ b) : BoxAt (w.setCell a v) b t := by
  have h' : w.heap[b]? = _ := h
  unfold BoxAt World.setCell
  simp [Array.getElem?_modify, h', hne]
theorem BoxAt.alloc {w : World} {b : Nat} {t : Ty} {o : Obj} (h : BoxAt w b t) : BoxAt (w.alloc o) b t := by
  unfold BoxAt
  rw [Go.heap_alloc_old _ _ h.lt]
  exact h

set_option maxRecDepth 100000 in
set_option maxHeartbeats 4000000 in
theorem textOf_g (k : Nat) (hk : k < 10) (fw fr : Nat) (wd x : List UInt8) (hel : spEl k = #[.string (bs wd), fnS fw, fnS fr]) (hwd : wd.length ≤ 100) (hx : x.length ≤ 1000) (p q n : Int) (vy : Bool) (pic : ByteArray) (w : World) (hE : EnvT w)
    (hcf : ∀ (args : Array Value) (W : World), (callFunc fw args).run Tryz.prog W = .ok (.enter fw args) W)
    (hw : ∀ W, EnvT W → Calls Tryz.prog fw #[tyV k p q n vy pic] W fun e w' => e = .returned (.string (bs x)) ∧ Below W.heap.size W w') :
    Calls Tryz.prog 100 #[tyV k p q n vy pic] w fun e w' => e = .returned (.string (bs (wd ++ x))) ∧ Below w.heap.size w w' := by
  have ix : ∀ W, (Instr.index 159 (.agg spRow) (.int .i64 k)).run Tryz.prog W = .ok (.agg #[.string (bs wd), fnS fw, fnS fr]) W := fun W => by rw [sp_ix k hk W, hel]
  have s1 := fun W => sadd wd x (wd ++ x) rfl (by omega) (by omega) W
  generalize hz : wd ++ x = z at s1 ⊢
  have HZ := Lib.hid hz
  have HE := Lib.hid hE; have HW := Lib.hid hw
  clear hz hE hw hk hel hwd hx
  have n2 : ∀ n : Nat, n < n + 1 + 1 := fun n => by omega
  go_enter Tryz.func100, Tryz.ntmps100
  go_upto_region 1 with fail
  go_cut [3] (fun s3 wx => ∃ g : Nat, s3 = .pointer (some ⟨g, 0, none⟩) ∧ w.heap.size < g ∧ wx.cell? ⟨g, 0, none⟩ = some (.string (bs wd)) ∧ wx.cell? ⟨g, 1, none⟩ = some (fnS fw) ∧ BoxAt wx w.heap.size ⟨k, p, q, n, vy, pic⟩ ∧ Below w.heap.size w wx)
  case first =>
    go_region_with (go_at_call 156; refine (spellings_any _).mono ?_; rintro e w1 ⟨rfl, hb⟩; have gz : w.heap.size < w1.heap.size := (by have := hb.size; simp at this; omega); obtain ⟨hc, hf⟩ := bcell hb; have bx : BoxAt w1 w.heap.size ⟨k, p, q, n, vy, pic⟩ := (hb.block _ (by simp <;> omega)).trans (by first | exact heap_alloc_last _ _ | exact heap_alloc2_old _ _ _); have hW : Below w.heap.size w w1 := below_then (by go_grown) hb (by simp <;> omega))
    all_goals
      go_wp2_with fail
      go_meet
      first
        | exact ⟨w1.heap.size, rfl, gz, by simp [go_sem], by simp [go_sem], BoxAt.alloc bx, hW.alloc (by omega) _⟩
        | exact ⟨w.heap.size + 1, rfl, by omega, by simp [go_sem, hc, hf], by simp [go_sem, hc, hf], ((bx.setC (by simp)).setC (by simp)).setC (by simp), ((hW.setCell (by simp) _).setCell (by simp) _).setCell (by simp) _⟩
  case rest =>
    obtain ⟨g, rfl, hg, g0, g1, bx, hW⟩ := hcut
    obtain ⟨x0, x1, x2, x3, x4, x5⟩ := bx.cells
    have HE2 := Lib.hid (HE.out.below hW)
    have HW2 := Lib.hid hW
    have lg := World.block_lt_of_cell? _ _ g0
    have lx := bx.lt
    clear hW bx HE
    go_wp2_with fail
    go_region_held3 (fun w' => (w'.cell? ⟨g, 0, none⟩ = some (.string (bs wd)) ∧ w'.cell? ⟨g, 1, none⟩ = some (fnS fw)) ∧
        (w'.cell? ⟨w.heap.size, 0, none⟩ = some (.int .i64 k) ∧ w'.cell? ⟨w.heap.size, 1, none⟩ = some (.int .i64 p) ∧ w'.cell? ⟨w.heap.size, 2, none⟩ = some (.int .i64 q) ∧ w'.cell? ⟨w.heap.size, 3, none⟩ = some (.int .i64 n) ∧ w'.cell? ⟨w.heap.size, 4, none⟩ = some (.bool vy) ∧ w'.cell? ⟨w.heap.size, 5, none⟩ = some (.string pic)))
      (first | go_keep | (go_split_ands; refine ⟨⟨?_, ?_⟩, ⟨?_, ?_, ?_, ?_, ?_, ?_⟩⟩ <;> (rw [hb.cell (by simp <;> omega)]; assumption)))
      ((refine (HW.out _ (HE2.out.below ((Below.refl _ _).drew))).mono ?_; rintro e w2 ⟨rfl, hb⟩; have hb2 : Below wc.heap.size wc w2 := below_then ((Below.refl _ _).drew) hb (by simp)))
    have hW3 := Lib.hid (below_then HW2.out hb2 HW2.out.size)
    go_wp2
    go_ret
    exact ⟨rfl, hW3.out⟩
end Go.Proofs.YtcekphfmpjdbmaaGreatDoor
