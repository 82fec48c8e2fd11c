/- Package bits: combined. -/
import Derived.Test.YtgoghblfficfpaaBitTell3
import Derived.Test.YtgoghblfficfpaaBitCmp
import Derived.Laws.EntriesVeiled
import Derived.Deep.RegionWith
namespace Go.Proofs.Ytgoghblfficfpaa
open Go.RowKit

set_option maxRecDepth 100000 in
set_option maxHeartbeats 2000000 in
/-- What combined tells. -/
theorem combined1 (t : List UInt8) (f g : Nat → UInt8) (fd fx fy : Nat) (cd cx cy : Array Value) (m bd bx bY i : Nat) (w : World) (hD : Row w bd #[fnC fd cd] 105) (hX : Row w bx #[fnC fx cx] 84) (hY : Row w bY #[fnC fy cy] 84)
    (TD : Does w fd cd t) (TX : Tells w fx cx m f) (TY : Tells w fy cy m g) (hi : i < m) (hf : f i = 48 ∨ f i = 49) (hg : g i = 48 ∨ g i = 49) :
    Calls Try.prog 141 #[.int .i64 i, ptr bd, ptr bx, ptr bY] w fun e w' => e = .returned (.int .u8 (bitF t (f i) (g i)).toNat) ∧ Below w.heap.size w w' := by
  have x0 := hD.one
  have y0 := hX.one
  have z0 := hY.one
  have h1 := TD.1
  have h2 := TX.1
  have h3 := TY.1
  have HD := Lib.hid TD; have HX := Lib.hid TX; have HY := Lib.hid TY; have HF := Lib.hid hf; have HG := Lib.hid hg
  clear TD TX TY hf hg
  go_enter Try.func141, Try.ntmps141
  go_wp2
  go_region_held3 (fun w' => w'.cell? ⟨bd, 0, none⟩ = some (fnC fd cd) ∧ w'.cell? ⟨bx, 0, none⟩ = some (fnC fx cx) ∧ w'.cell? ⟨bY, 0, none⟩ = some (fnC fy cy))
    (first | go_keep | exact ⟨D4.one, X4.one, Y4.one⟩ | exact ⟨D3.one, X3.one, Y3.one⟩ | exact ⟨D2.one, X2.one, Y2.one⟩)
    (first
      | (refine (HX.out.2 i _ hi (Below.refl _ _).drew).mono ?_; rintro e w2 ⟨rfl, hb2⟩; have D2 := hD.keep (bl_drew hb2); have X2 := hX.keep (bl_drew hb2); have Y2 := hY.keep (bl_drew hb2))
      | (refine (HY.out.2 i _ hi (bl_drew hb2)).mono ?_; rintro e w3 ⟨rfl, hb3⟩; have D3 := D2.keep hb3; have X3 := X2.keep hb3; have Y3 := Y2.keep hb3)
      | (refine (HD.out.2 _ _ _ HF.out HG.out (bl_then (bl_drew hb2) hb3)).mono ?_; rintro e w4 ⟨rfl, hb4⟩; have D4 := D3.keep hb4; have X4 := X3.keep hb4; have Y4 := Y3.keep hb4))
  go_wp2
  go_ret
  exact ⟨rfl, bl_then (bl_then (bl_drew hb2) hb3) hb4⟩

set_option maxHeartbeats 1000000 in
/-- What filled captures. -/
theorem filled_rows (k n q : Int) (s : ByteArray) (w : World) (hk : k = 4 ∨ k = 5) :
    Calls Try.prog 124 #[vlV k n q s] w fun e w' => ∃ bs bi, e = .returned (fnC 150 #[ptr bs, ptr bi]) ∧ w.heap.size ≤ bs ∧ w.heap.size ≤ bi ∧ Row w' bs (vlC k n q s) 23 ∧ Row w' bi (spC k) 90 ∧ Below w.heap.size w w' := by
  have HK := Lib.hid hk
  clear hk
  go_enter Try.func124, Try.ntmps124
  go_wp2_with (first
    | (go_at_call 123; refine (kindOf_any _ _).mono ?_; rintro e w1 ⟨rfl, hb1⟩; have R1 := (Row.new _ _ _).keep hb1; have B1 := bl_box (Below.refl _ w) hb1)
    | (go_at_call 94; refine (spanOf_k k _ HK.out).mono ?_; rintro e w2 ⟨rfl, hb2⟩; have R2 := R1.keep hb2; have B2 := bl_then B1 hb2))
  go_ret
  exact ⟨_, _, rfl, Nat.le_refl _, B2.size, R2.alloc _, Row.new _ _ _, B2.alloc B2.size _⟩
theorem row_new4 (w : World) (o o' o'' : Obj) (cs : Array Value) (t : TypeId) : Row ((((w.alloc o).alloc o').alloc o'').alloc (.cells cs t)) (w.heap.size + 1 + 1 + 1) cs t := by
  have := Row.new (((w.alloc o).alloc o').alloc o'') cs t
  rwa [World.size_alloc, World.size_alloc, World.size_alloc] at this
theorem row_news (w : World) (a : Addr) (v : Value) (cs : Array Value) (t : TypeId) : Row ((w.setCell a v).alloc (.cells cs t)) w.heap.size cs t := by
  have h := Row.new (w.setCell a v) cs t
  have e : (w.setCell a v).heap.size = w.heap.size := by simp [World.setCell]
  rwa [e] at h
theorem row_put1 {w : World} {b : Nat} {v : Value} {t : TypeId} (h : Row w b #[.nilFunc] t) : Row (w.setCell ⟨b, 0, none⟩ v) b #[v] t := h.put 0 v

/-- What stands behind combined's first line: the boxes of the two tellers. -/
def CombRel (W : World) (m : Nat) (k : Int) (la lb : List UInt8) (s7 s8 : Value) (wx : World) : Prop :=
  ∃ bX bY cx cy, s7 = ptr bX ∧ s8 = ptr bY ∧ Row wx bX #[fnC 150 cx] 84 ∧ Row wx bY #[fnC 150 cy] 84 ∧
    Tells wx 150 cx m (getF k la) ∧ Tells wx 150 cy m (getF k lb) ∧ Below W.heap.size W wx
theorem combRel_mk {W wx : World} {m : Nat} {a b : Vl} {k : Int} {bX bY sx ix sy iy : Nat} (la : a.s.size ≤ 100000) (lb : b.s.size ≤ 100000) (ha : a.k = k) (hb : b.k = k)
    (h1 : Row wx bX #[fnC 150 #[ptr sx, ptr ix]] 84) (h2 : Row wx bY #[fnC 150 #[ptr sy, ptr iy]] 84)
    (h3 : Row wx sx (vlC a.k a.n a.q a.s) 23) (h4 : Row wx ix (spC a.k) 90) (h5 : Row wx sy (vlC b.k b.n b.q b.s) 23) (h6 : Row wx iy (spC b.k) 90) (hB : Below W.heap.size W wx) :
    CombRel W m k a.s.data.toList b.s.data.toList (ptr bX) (ptr bY) wx :=
  ⟨bX, bY, _, _, rfl, rfl, h1, h2, ha ▸ filled_tells a.k a.n a.q a.s sx ix m wx h3 h4 la, hb ▸ filled_tells b.k b.n b.q b.s sy iy m wx h5 h6 lb, hB⟩
end Go.Proofs.Ytgoghblfficfpaa
