/- Package bits, tellers: like; filled. -/
import Derived.Test.YtljbkpnfjgnhnaaDoorBitLib
import Derived.Deep.DeepCutAuto
import Derived.OwnWalk
import Derived.Deep.OwnRows
import Derived.Laws.IdiomStrings
namespace Go.Proofs.YtljbkpnfjgnhnaaDoor
open Go.RowKit

/-- A function of the program that tells the item at a place, for the places below n, in any world behind w. -/
def Tells (w : World) (fn : Nat) (cap : Array Value) (n : Nat) (f : Nat → UInt8) : Prop :=
  (∀ (args : Array Value) (W : World), (callFunc fn args).run Tryd.prog W = .ok (.enter fn args) W) ∧
  ∀ (i : Nat) (W : World), i < n → Below w.heap.size w W → Calls Tryd.prog fn (#[.int .i64 i] ++ cap) W fun e w' => e = .returned (.int .u8 (f i).toNat) ∧ Below W.heap.size W w'
abbrev fnC (fn : Nat) (cap : Array Value) : Value := .func (.func fn) #[] cap

theorem Tells.later {w w' : World} {fn : Nat} {cap : Array Value} {n : Nat} {f : Nat → UInt8} (h : Tells w fn cap n f) (hB : Below w.heap.size w w') : Tells w' fn cap n f :=
  ⟨h.1, fun i W hi hW => h.2 i W hi (bl_then hB hW)⟩

theorem Tryd.infoU8 : (Tryd.prog.info? 5).map (fun i => (i.zero, i.size, i.bytes)) = some (some (.int .u8 0), 1, 1) := by kernel_rfl

theorem Row.put {w : World} {b : Nat} {cs : Array Value} {t : TypeId} (h : Row w b cs t) (k : Nat) (v : Value) : Row (w.setCell ⟨b, k, none⟩ v) b (cs.setIfInBounds k v) t := heap_setCell_same w b k cs t v h

/-- The bytes told so far, in a row. -/
def Told (cs : Array Value) (len k : Nat) (f : Nat → UInt8) : Prop := cs.size = len ∧ ∀ j, j < k → cs[j]? = some (.int .u8 (f j).toNat)
theorem Told.more {cs : Array Value} {len k : Nat} {f : Nat → UInt8} (h : Told cs len k f) (hk : k < len) : Told (cs.setIfInBounds k (.int .u8 (f k).toNat)) len (k + 1) f := by
  refine ⟨by rw [Array.size_setIfInBounds]; exact h.1, fun j hj => ?_⟩
  by_cases e : j = k
  · subst e
    rw [Array.getElem?_setIfInBounds_self_of_lt (by rw [h.1]; exact hk)]
  · rw [Array.getElem?_setIfInBounds_ne (by omega)]
    exact h.2 j (by omega)

set_option maxRecDepth 100000 in
set_option maxHeartbeats 2000000 in
theorem like_any (k n q : Int) (s : ByteArray) (len : Nat) (fn : Nat) (cap : Array Value) (f : Nat → UInt8) (w : World) (hl : len ≤ 100000) (hT : Tells w fn cap len f) :
    Calls Tryd.prog 34 #[vlV k n q s, .int .i64 len, fnC fn cap] w fun e w' => e = .returned (vlV k 0 0 (bsz (tellL len f))) ∧ Below w.heap.size w w' := by
  have hcf := hT.1
  have hmk := run_make_row' 87 5 (.int .u8 0) 1 Tryd.underlying87 Tryd.infoU8 rfl .i64 .i64 len (by omega) (by omega)
  have HT := Lib.hid hT
  clear hT
  have RS := Lib.hid (((Row.new w #[.int .i64 k, .int .i64 n, .int .i64 q, .string s] 23).alloc (.cells #[.int .i64 0, .int .i64 0, .int .i64 0, .string ⟨#[]⟩] 23)).alloc (.cells (madeCells #[Value.int .u8 0] len) 5))
  have RZ := Lib.hid ((Row.new2 w (.cells #[.int .i64 k, .int .i64 n, .int .i64 q, .string s] 23) #[.int .i64 0, .int .i64 0, .int .i64 0, .string ⟨#[]⟩] 23).alloc (.cells (madeCells #[Value.int .u8 0] len) 5))
  have RB := Lib.hid (Row.new3 w (.cells #[.int .i64 k, .int .i64 n, .int .i64 q, .string s] 23) (.cells #[.int .i64 0, .int .i64 0, .int .i64 0, .string ⟨#[]⟩] 23) (madeCells #[Value.int .u8 0] len) 5)
  go_enter Tryd.func34, Tryd.ntmps34
  go_wp2
  go_loopw [12] (fun v wr => ∃ (j : Nat) (cs : Array Value), j ≤ len ∧ v = .int .i64 j ∧ Told cs len j f ∧ Row wr (w.heap.size + 1 + 1) cs 5 ∧ Row wr w.heap.size #[.int .i64 k, .int .i64 n, .int .i64 q, .string s] 23 ∧ Row wr (w.heap.size + 1) #[.int .i64 0, .int .i64 0, .int .i64 0, .string ⟨#[]⟩] 23 ∧ Below w.heap.size w wr) (fun v _ => len - (intOf v).toNat)
  case atStart => exact ⟨0, _, Nat.zero_le _, rfl, ⟨by simp [madeCells], fun j hj => absurd hj (Nat.not_lt_zero _)⟩, RB.out, RS.out, RZ.out, by go_grown⟩
  case round =>
    obtain ⟨j, cs, hj, rfl, hD, hR, hS, hZ, hB⟩ := hrel
    have HD := Lib.hid hD; have HR := Lib.hid hR; have HS := Lib.hid hS; have HZ := Lib.hid hZ; have HB := Lib.hid hB
    clear hD hR hS hZ hB hmk RS RZ RB
    by_cases hlt : j < len
    · go_wp2_with (refine (HT.out.2 j _ hlt HB.out).mono ?_; rintro e w2 ⟨rfl, hb2⟩; have R2 := HR.out.keep hb2; have S2 := HS.out.keep hb2; have Z2 := HZ.out.keep hb2; have B2 := bl_then HB.out hb2; have fz := R2.free j; obtain ⟨x, hx⟩ : ∃ x, cs[j]? = some x := ⟨_, Array.getElem?_eq_getElem (by rw [HD.out.1]; exact hlt)⟩; have cx := (R2.at j).trans hx)
      go_roundw
      case rel => exact ⟨j + 1, _, by omega, by go_num, HD.out.more hlt, R2.put j _, S2.set (by simp <;> omega), Z2.set (by simp <;> omega), B2.setCell (by simp <;> omega) _⟩
      case measure => simp [intOf]; omega
    · obtain rfl : j = len := by omega
      have hcv : (convert 87 9 (.slice (some ⟨w.heap.size + 1 + 1, 0, none⟩) j j)).run Tryd.prog wr = .ok (.string (bsz (tellL j f))) wr := by
        have := run_convert_bytes_back (P := Tryd.prog) wr 87 9 5 ⟨w.heap.size + 1 + 1, 0, none⟩ j (tellL j f) Tryd.underlying87 (by kernel_rfl) (by kernel_rfl) (fun i hi => by
          rw [tellL_get]
          have := (HR.out.at i).trans (HD.out.2 i (by rw [tellL_len] at hi; exact hi))
          rw [show (⟨w.heap.size + 1 + 1, 0, none⟩ : Addr).add i = ⟨w.heap.size + 1 + 1, i, none⟩ by cases i <;> simp [Addr.add]]
          exact this)
        rwa [tellL_len] at this
      obtain ⟨x0, x1, x2, x3⟩ := HS.out.four
      obtain ⟨z0, z1, z2, z3⟩ := HZ.out.four
      have f0 := HZ.out.free 0
      have f1 := HZ.out.free 1
      have f2 := HZ.out.free 2
      have f3 := HZ.out.free 3
      go_wp2
      refine bodyPost_ret (v := vlV k 0 0 (bsz (tellL j f))) (by simp [results, Tryd.results34, go_sem, *]) rfl ⟨rfl, ?_⟩
      (repeat refine Below.setCell ?_ (by simp <;> omega) _)
      exact HB.out
end Go.Proofs.YtljbkpnfjgnhnaaDoor
